import Derived.Test.YthoilicolakofaaDoorFd
import Derived.Test.YthoilicolakofaaDoorOb
namespace Go.Proofs.YthoilicolakofaaDoor
open Go.ChangeShapes Go.WideShapes Go.ChangeAt Go.RowKit
set_option linter.unusedVariables false
set_option linter.unusedSimpArgs false

abbrev Fx := Int × Value × List Int
def gFx (l : List Fx) (i : Nat) : Fx := l.getD i (0, .slice none 0 0, [])
def fxCells (l : List Fx) : List Value := l.flatMap fun x => [.int .i64 x.1, x.2.1]
def prFx (x : Fx) : Int × List Int := (x.1, x.2.2)

def FxS (w : World) (a : Option Addr) (l : List Fx) : Prop :=
  l.length = 0 ∨ ∃ g off, a = some ⟨g, off, none⟩ ∧ g < w.heap.size ∧ ∀ i, i < l.length → w.cell? ⟨g, off + i * 2, none⟩ = some (.int .i64 (gFx l i).1) ∧ w.cell? ⟨g, off + i * 2 + 1, none⟩ = some (gFx l i).2.1 ∧ ∃ pa cap, (gFx l i).2.1 = .slice pa (gFx l i).2.2.length cap ∧ Seg w pa (gFx l i).2.2.length (gz (gFx l i).2.2)
theorem FxS.below {w w1 : World} {a : Option Addr} {l : List Fx} (h : FxS w a l) (hb : Below w.heap.size w w1) : FxS w1 a l := by
  refine h.imp id ?_
  rintro ⟨g, o, e, hg, hc⟩
  refine ⟨g, o, e, Nat.lt_of_lt_of_le hg hb.size, fun j hj => ?_⟩
  obtain ⟨h1, h2, pa, cap, h3, h4⟩ := hc j hj
  exact ⟨(hb.cell (p := ⟨g, _, none⟩) hg).trans h1, (hb.cell (p := ⟨g, _, none⟩) hg).trans h2, pa, cap, h3, h4.below hb⟩
theorem gFx_pr {l l' : List Fx} (h : l.map prFx = l'.map prFx) {i : Nat} (hi : i < l.length) : (gFx l i).1 = (gFx l' i).1 ∧ (gFx l i).2.2 = (gFx l' i).2.2 := by
  have hl : l.length = l'.length := by have := congrArg List.length h; simpa using this
  have h2 := congrArg (fun z => z.getD i (0, [])) h
  simp [List.getD, hi, hl ▸ hi, prFx] at h2
  simp [gFx, List.getD, hi, hl ▸ hi]
  exact h2

set_option maxRecDepth 100000 in
theorem eqFrameD (k : Int) (a a' : Option Addr) (n c c' : Nat) (f : Nat → Int) (w : World) (hn : n ≤ 4194304) (h : Seg w a n f) (h' : Seg w a' n f) :
    Calls Tryd.prog 23 #[.agg #[.int .i64 k, .slice a n c], .agg #[.int .i64 k, .slice a' n c']] w fun e w' => e = .returned (.bool true) ∧ Below w.heap.size w w' := by
  have HB0 : Hid (Below w.heap.size w ((w.alloc (.cells #[.int .i64 k, .slice a n c] 40)).alloc (.cells #[.int .i64 k, .slice a' n c'] 40))) := bel2 _ _ _
  have HE := hid (eqB2 a a' n c c' f _ (by omega) (h.below HB0.out) (h'.below HB0.out))
  clear h h'
  go_enter Tryd.func23, Tryd.ntmps23
  go_wp2_with fail
  refine HE.out.mono ?_
  rintro e w1 ⟨rfl, b1⟩
  have HB1 := hid (keepS HB0.out b1)
  clear b1 HE
  go_wp2_with fail
  go_ret
  exact ⟨rfl, HB1.out⟩

set_option maxRecDepth 100000 in
set_option maxHeartbeats 800000 in
theorem eqFrameSC (a a' : Option Addr) (c c' : Nat) (l l' : List Fx) (w : World) (hl : l.length ≤ 1048576) (hb : ∀ i, (gFx l i).2.2.length ≤ 1048576) (h : FxS w a l) (h' : FxS w a' l') (he : l.map prFx = l'.map prFx) :
    Calls Tryd.prog 10 #[.slice a l.length c, .slice a' l'.length c'] w fun e w' => e = .returned (.bool true) ∧ Below w.heap.size w w' := by
  have hll : l'.length = l.length := by have := congrArg List.length he; simpa using this.symm
  rw [hll]
  have HE := hid he
  have HL := hid hb
  have HL' := hid hll
  clear he hb hll
  obtain ⟨n, hn⟩ : ∃ n, l.length = n := ⟨_, rfl⟩
  have HN := hid hn
  rw [hn] at hl ⊢
  clear hn
  rcases h with h | ⟨g, off, rfl, hg, hc⟩
  · have h0 : n = 0 := by rw [← HN.out]; exact h
    subst h0
    clear h'
    go_enter Tryd.func10, Tryd.ntmps10
    go_wp2
    refine wp_loop_rounds 1 ?_; rw [rounds_succ]; go_wp2
    go_ret
    exact ⟨rfl, Below.refl _ _⟩
  · rcases h' with h' | ⟨g', off', rfl, hg', hc'⟩
    · have h0 : n = 0 := by rw [← HN.out, ← HL'.out]; exact h'
      subst h0
      clear hc
      go_enter Tryd.func10, Tryd.ntmps10
      go_wp2
      refine wp_loop_rounds 1 ?_; rw [rounds_succ]; go_wp2
      go_ret
      exact ⟨rfl, Below.refl _ _⟩
    · have HC := hid hc
      have HC' := hid hc'
      clear hc hc'
      go_enter Tryd.func10, Tryd.ntmps10
      go_wp2
      go_loopw [5] (fun i wr => ∃ k : Nat, k ≤ n ∧ i = .int .i64 k ∧ Below w.heap.size w wr) (fun i _ => n - (intOf i).toNat)
      case atStart => exact ⟨0, Nat.zero_le _, rfl, Below.refl _ _⟩
      case round =>
        obtain ⟨k, hk, rfl, hbel⟩ := hrel
        by_cases hlt : k < n
        · obtain ⟨q1, q2, pa, cap, q3, q4⟩ := HC.out k (by rw [HN.out]; exact hlt)
          obtain ⟨r1, r2, pa', cap', r3, r4⟩ := HC'.out k (by rw [HL'.out, HN.out]; exact hlt)
          obtain ⟨s1, s2⟩ := gFx_pr HE.out (show k < l.length by rw [HN.out]; exact hlt)
          rw [q3] at q2
          rw [r3, ← s2] at r2
          rw [← s1] at r1
          rw [← s2] at r4
          have hbk := HL.out k
          clear q3 r3 s1 s2
          obtain ⟨kd, hkd⟩ : ∃ kd, (gFx l k).1 = kd := ⟨_, rfl⟩
          obtain ⟨zs, hzs⟩ : ∃ zs, (gFx l k).2.2 = zs := ⟨_, rfl⟩
          rw [hkd] at q1 r1
          rw [hzs] at q2 r2 q4 r4 hbk
          clear hkd hzs
          have u1 := (hbel.cell (p := ⟨g, off + k * 2, none⟩) hg).trans q1
          have u2 := (hbel.cell (p := ⟨g, off + k * 2 + 1, none⟩) hg).trans q2
          have u3 := (hbel.cell (p := ⟨g', off' + k * 2, none⟩) hg').trans r1
          have u4 := (hbel.cell (p := ⟨g', off' + k * 2 + 1, none⟩) hg').trans r2
          have HQ1 := hid (q4.below hbel)
          have HQ2 := hid (r4.below hbel)
          have HBL := hid hbel
          clear q1 q2 q4 r1 r2 r4 hbel
          go_wp2
          refine wp_region_held_drew (S := fun w' => w'.cell? ⟨g, off + k * 2, none⟩ = some (.int .i64 kd) ∧ w'.cell? ⟨g, off + k * 2 + 1, none⟩ = some (.slice pa zs.length cap) ∧ w'.cell? ⟨g', off' + k * 2, none⟩ = some (.int .i64 kd) ∧ w'.cell? ⟨g', off' + k * 2 + 1, none⟩ = some (.slice pa' zs.length cap')) (by kernel_rfl) ⟨u1, u2, u3, u4⟩ (fun hHeld => ?_)
          refine take1 (i := 0) (d := some 17) (v := ?_) (by kernel_rfl) (by kernel_rfl) (by kernel_rfl) (by kernel_rfl) (fun _ _ _ h => h) ?_ hHeld ?_
          rotate_left
          · (intro o ho; simp only [List.getElem?_toArray, List.getElem?_cons_succ, List.getElem?_cons_zero, Option.some.injEq] at ho; subst ho; refine Or.inl ⟨by rfl, ?_⟩; intro w hSw; (try dsimp only at hSw); go_simp; try with_reducible rfl)
          try simp only [Act.put, List.setIfInBounds_toArray, List.set_cons_zero, List.set_cons_succ]
          refine take1 (i := 1) (d := some 18) (v := ?_) (by kernel_rfl) (by kernel_rfl) (by kernel_rfl) (by kernel_rfl) (fun _ _ _ h => h) ?_ hHeld ?_
          rotate_left
          · (intro o ho; simp only [List.getElem?_toArray, List.getElem?_cons_succ, List.getElem?_cons_zero, Option.some.injEq] at ho; subst ho; refine Or.inl ⟨by rfl, ?_⟩; intro w hSw; (try dsimp only at hSw); go_simp; try with_reducible rfl)
          try simp only [Act.put, List.setIfInBounds_toArray, List.set_cons_zero, List.set_cons_succ]
          refine take1 (i := 2) (d := some 19) (v := ?_) (by kernel_rfl) (by kernel_rfl) (by kernel_rfl) (by kernel_rfl) (fun _ _ _ h => h) ?_ hHeld ?_
          rotate_left
          · (intro o ho; simp only [List.getElem?_toArray, List.getElem?_cons_succ, List.getElem?_cons_zero, Option.some.injEq] at ho; subst ho; refine Or.inl ⟨by rfl, ?_⟩; intro w hSw; (try dsimp only at hSw); go_simp; try with_reducible rfl)
          try simp only [Act.put, List.setIfInBounds_toArray, List.set_cons_zero, List.set_cons_succ]
          refine take1 (i := 3) (d := some 20) (v := ?_) (by kernel_rfl) (by kernel_rfl) (by kernel_rfl) (by kernel_rfl) (fun _ _ _ h => h) ?_ hHeld ?_
          rotate_left
          · (intro o ho; simp only [List.getElem?_toArray, List.getElem?_cons_succ, List.getElem?_cons_zero, Option.some.injEq] at ho; subst ho; refine Or.inl ⟨by rfl, ?_⟩; intro w hSw; (try dsimp only at hSw); go_simp; try with_reducible rfl)
          try simp only [Act.put, List.setIfInBounds_toArray, List.set_cons_zero, List.set_cons_succ]
          refine take1 (i := 4) (d := some 21) (v := ?_) (by kernel_rfl) (by kernel_rfl) (by kernel_rfl) (by kernel_rfl) (fun _ _ _ h => h) ?_ hHeld ?_
          rotate_left
          · (intro o ho; simp only [List.getElem?_toArray, List.getElem?_cons_succ, List.getElem?_cons_zero, Option.some.injEq] at ho; subst ho; refine Or.inl ⟨by rfl, ?_⟩; intro w hSw; (try dsimp only at hSw); go_simp; try with_reducible rfl)
          try simp only [Act.put, List.setIfInBounds_toArray, List.set_cons_zero, List.set_cons_succ]
          refine take1 (i := 5) (d := some 22) (v := ?_) (by kernel_rfl) (by kernel_rfl) (by kernel_rfl) (by kernel_rfl) (fun _ _ _ h => h) ?_ hHeld ?_
          rotate_left
          · (intro o ho; simp only [List.getElem?_toArray, List.getElem?_cons_succ, List.getElem?_cons_zero, Option.some.injEq] at ho; subst ho; refine Or.inl ⟨by rfl, ?_⟩; intro w hSw; (try dsimp only at hSw); go_simp; try with_reducible rfl)
          try simp only [Act.put, List.setIfInBounds_toArray, List.set_cons_zero, List.set_cons_succ]
          refine take1 (i := 6) (d := some 23) (v := ?_) (by kernel_rfl) (by kernel_rfl) (by kernel_rfl) (by kernel_rfl) (fun _ _ _ h => h) ?_ hHeld ?_
          rotate_left
          · (intro o ho; simp only [List.getElem?_toArray, List.getElem?_cons_succ, List.getElem?_cons_zero, Option.some.injEq] at ho; subst ho; refine Or.inl ⟨by rfl, ?_⟩; intro w hSw; (try dsimp only at hSw); go_simp; try with_reducible rfl)
          try simp only [Act.put, List.setIfInBounds_toArray, List.set_cons_zero, List.set_cons_succ]
          refine take1 (i := 7) (d := some 24) (v := ?_) (by kernel_rfl) (by kernel_rfl) (by kernel_rfl) (by kernel_rfl) (fun _ _ _ h => h) ?_ hHeld ?_
          rotate_left
          · (intro o ho; simp only [List.getElem?_toArray, List.getElem?_cons_succ, List.getElem?_cons_zero, Option.some.injEq] at ho; subst ho; refine Or.inl ⟨by rfl, ?_⟩; intro w hSw; (try dsimp only at hSw); go_simp; try with_reducible rfl)
          try simp only [Act.put, List.setIfInBounds_toArray, List.set_cons_zero, List.set_cons_succ]
          refine call1 (i := 8) (d := some 25) (by kernel_rfl) (by kernel_rfl) ?_
          intro o ho hod K hK; simp only [List.getElem?_toArray, List.getElem?_cons_succ, List.getElem?_cons_zero, Option.some.injEq] at ho; subst ho
          go_simp
          refine (eqFrameD kd pa pa' zs.length cap cap' (gz zs) _ (by omega) (by exact HQ1.out) (by exact HQ2.out)).mono ?_
          rintro e w1 ⟨rfl, b1⟩
          have b1' : Below wr.heap.size wr w1 := ⟨b1.os, b1.tape, b1.output, b1.size, b1.block⟩
          have zg : g < wr.heap.size := Nat.lt_of_lt_of_le hg HBL.out.size
          have zg' : g' < wr.heap.size := Nat.lt_of_lt_of_le hg' HBL.out.size
          have HB1 := hid (keepS HBL.out b1')
          have t1 := (b1'.cell (p := ⟨g, off + k * 2, none⟩) zg).trans u1
          have t2 := (b1'.cell (p := ⟨g, off + k * 2 + 1, none⟩) zg).trans u2
          have t3 := (b1'.cell (p := ⟨g', off' + k * 2, none⟩) zg').trans u3
          have t4 := (b1'.cell (p := ⟨g', off' + k * 2 + 1, none⟩) zg').trans u4
          refine hK.out _ _ ⟨t1, t2, t3, t4⟩ (fun hHeld => ?_)
          clear hK K
          try simp only [Act.put, List.setIfInBounds_toArray, List.set_cons_zero, List.set_cons_succ]
          refine take1 (i := 9) (d := some 26) (v := ?_) (by kernel_rfl) (by kernel_rfl) (by kernel_rfl) (by kernel_rfl) (fun _ _ _ h => h) ?_ hHeld ?_
          rotate_left
          · (intro o ho; simp only [List.getElem?_toArray, List.getElem?_cons_succ, List.getElem?_cons_zero, Option.some.injEq] at ho; subst ho; refine Or.inl ⟨by rfl, ?_⟩; intro w hSw; (try dsimp only at hSw); go_simp; try with_reducible rfl)
          try simp only [Act.put, List.setIfInBounds_toArray, List.set_cons_zero, List.set_cons_succ]
          refine wpAnyH_done (by kernel_rfl) ?_ _
          clear hHeld b1 b1' u1 u2 u3 u4 t1 t2 t3 t4
          go_wp2
          go_roundw
          case rel => exact ⟨k + 1, hlt, by go_num, HB1.out⟩
          case measure => simp [intOf]; omega
        · obtain rfl : k = n := by omega
          go_wp2
          go_ret
          exact ⟨rfl, hbel⟩
end Go.Proofs.YthoilicolakofaaDoor
