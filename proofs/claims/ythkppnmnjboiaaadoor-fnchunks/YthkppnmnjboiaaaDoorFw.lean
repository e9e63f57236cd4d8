import Derived.Test.YthkppnmnjboiaaaDoorFj
namespace Go.Proofs.YthkppnmnjboiaaaDoor
open Go.ChangeShapes Go.WideShapes Go.ChangeAt Go.RowKit
set_option linter.unusedVariables false
set_option linter.unusedSimpArgs false

def FeedA (w w' : World) (F : Nat → Int) (N : Nat) (tk : Int) (e : Ending) : Prop :=
  ∃ v fv l, e = .returned (.tuple #[.agg #[v, .int .i64 (IntKind.i64.wrap (tk + ((feedF F N 0).2.1 : Nat))), .int .i64 ((feedF F N 0).1 : Nat)], fv])
    ∧ Own w' w.heap.size v (payl (shF F (feedF F N 0).2.1) (restF F N)) ∧ FxR w' w.heap.size fv l ∧ l.map prFx = (feedF F N 0).2.2 ∧ l.length ≤ N
    ∧ ∀ k, v.ownBlock = some k → fv.ownBlock ≠ some k ∧ ∀ i, i < l.length → (gFx l i).2.1.ownBlock ≠ some k

theorem own_form {w : World} {B : Nat} {v : Value} {zs : List Int} (h : Own w B v zs) : (v = .slice none 0 0 ∧ zs.length = 0) ∨ ∃ g cap, v = .slice (some ⟨g, 0, none⟩) zs.length cap ∧ B ≤ g ∧ g < w.heap.size ∧ zs.length ≤ cap ∧ cap ≤ 9223372036854775807 ∧ ∀ i, i < zs.length → w.cell? ⟨g, i, none⟩ = some (.int .u8 (gz zs i)) := by
  by_cases hn : v.ownBlock = none
  · rcases h.2 with h2 | ⟨g, cap, cur, rfl, _⟩
    · exact .inl h2
    · simp [Value.ownBlock] at hn
  · obtain ⟨g, cap, rfl, hB, h1, h2, sb⟩ := own_some h hn
    refine .inr ⟨g, cap, rfl, hB, (World.ownsRow.lt h g rfl).2, h1, h2, fun i hi => ?_⟩
    rcases sb with s | ⟨b, off, e, _, _, hc⟩
    · omega
    · injection e with e; injection e with e1 e2 _
      subst e1 e2
      have := hc i hi
      rwa [Nat.zero_add] at this

theorem neqF (k : Nat) (w : World) : (binOp .neq 50 (.func (.func k) #[] #[]) .nilFunc).run Tryd.prog w = .ok (.bool true) w := by kernel_rfl
theorem neqN (w : World) : (binOp .neq 50 .nilFunc .nilFunc).run Tryd.prog w = .ok (.bool false) w := by kernel_rfl
theorem Errs.mono {w : World} {B B' : Nat} {aT aS aL aE : Addr} (h : Errs w B aT aS aL aE) (hB : B ≤ B') : Errs w B' aT aS aL aE :=
  { h with lG := Nat.le_trans h.lG hB, lT := Nat.lt_of_lt_of_le h.lT hB, lS := Nat.lt_of_lt_of_le h.lS hB, lE := Nat.lt_of_lt_of_le h.lE hB
  }

def Frm (W0 : World) (cb : Nat) (a : Option Addr) (N c : Nat) (F : Nat → Int) : Prop :=
  (a = none ∧ N = 0 ∧ c = 0) ∨ ∃ b, a = some ⟨b, 0, none⟩ ∧ b < cb ∧ N ≤ c ∧ c ≤ 9223372036854775807 ∧ ∀ i, i < N → W0.cell? ⟨b, i, none⟩ = some (.int .u8 (F i))
section
variable {W0 wr w' : World} {cb N p c : Nat} {F : Nat → Int} {R : Nat × Nat × List (Int × List Int)} {a : Option Addr} {fv : Value} {l : List Fx}
theorem Frm.bts (h : Frm W0 cb a N c F) : Bts W0 cb a N F ∧ N ≤ c ∧ c ≤ 9223372036854775807 := by
  rcases h with ⟨rfl, rfl, rfl⟩ | ⟨b, rfl, hb, h1, h2, hc⟩
  · exact ⟨.inl rfl, by omega, by omega⟩
  · exact ⟨.inr ⟨b, rfl, hb, hc⟩, h1, h2⟩
theorem DcE.drew (h : DcE W0 wr cb N R a c fv l) : DcE W0 wr.drew cb N R a c fv l :=
  ⟨h.bel.drew, h.lt, h.c0, h.c2, h.c5, h.c6, h.fr.kept (row := none) ⟨rfl, rfl, rfl, Nat.le_refl _, fun _ _ _ => rfl⟩ (by simp), h.t3, h.le, h.ll⟩
theorem restAll (hn : N ≤ 4194304) (h : DcE W0 wr cb N (feedF F N 0) a c fv l) (hf : Frm W0 cb a N c F) :
    Calls Tryd.prog 18 #[.pointer (some ⟨cb, 0, none⟩)] wr fun e w' => ∃ v, e = .returned v ∧ Own w' wr.heap.size v (payl (shF F (feedF F N 0).2.1) (restF F N)) ∧ Below wr.heap.size wr w' := by
  have c2 := h.c2
  have c5 := h.c5
  have hle := h.le
  by_cases hR : (feedF F N 0).1 = 0
  · have hr : restF F N = N - (feedF F N 0).2.1 := by unfold restF; rw [if_pos hR]
    rw [hR] at c5
    rw [hr]
    rcases hf with ⟨rfl, rfl, rfl⟩ | ⟨b, rfl, hb, h1, h2, hc⟩
    · have e : (feedF F 0 0).2.1 = 0 := by omega
      rw [e] at c2 ⊢
      exact restC2 cb _ wr h.c0 c2 c5
    · exact restC1 cb b N c _ F wr hn hle h1 h2 h.c0 c2 c5 (Nat.lt_trans hb h.lt) (fun i hi => (h.bel.cell (p := ⟨b, i, none⟩) hb).trans (hc i hi))
  · have hr : restF F N = 0 := by unfold restF; rw [if_neg hR]
    rw [hr]
    refine (restC0 cb _ wr hR c5).mono ?_
    rintro e w' ⟨rfl, rfl⟩
    exact ⟨_, rfl, by unfold Own; exact World.ownsRow_nil _ _ _ _, Below.refl _ _⟩
end

set_option maxRecDepth 100000 in
set_option maxHeartbeats 2000000 in
theorem implFeedG (a1 : Option Addr) (n1 c1 : Nat) (a2 : Option Addr) (n2 c2 : Nat) (f f2 : Nat → Int) (tk : Int) (B : Nat) (aT aS aL aE : Addr) (w : World) (hn : n1 ≤ 1048576) (hn2 : n2 ≤ 1048576) (hf : Byt f) (hf2 : Byt f2) (h1 : Seg w a1 n1 f) (h2 : Seg w a2 n2 f2) (hE : Errs w B aT aS aL aE) (hB : B ≤ w.heap.size) :
    Calls Tryd.prog 6 #[.agg #[.slice a1 n1 c1, .int .i64 tk, .int .i64 0], .slice a2 n2 c2] w fun e w' => Below w.heap.size w w' ∧ FeedA w w' (gz (payl f n1 ++ payl f2 n2)) (n1 + n2) tk e := by
  obtain ⟨W, hW⟩ : ∃ W, ((w.alloc (.cells #[.slice a1 n1 c1, .int .i64 tk, .int .i64 0] 25)).alloc (.cells #[.slice none 0 0, .int .i64 0, .int .i64 0] 25)).alloc (.cells #[.slice a1 n1 c1, .slice a2 n2 c2] 22) = W := ⟨_, rfl⟩
  have bW : Below w.heap.size w W := by rw [← hW]; exact (((Below.refl _ _).alloc (Nat.le_refl _) _).alloc (by simp) _).alloc (by simp; omega) _
  have zW : Hid (W.heap.size = w.heap.size + 3) := by rw [← hW]; exact hid (by simp)
  have la1 : w.heap.size < ((w.alloc (.cells #[.slice a1 n1 c1, .int .i64 tk, .int .i64 0] 25)).alloc (.cells #[.slice none 0 0, .int .i64 0, .int .i64 0] 25)).heap.size := by simp; omega
  have la2 : w.heap.size + 1 < ((w.alloc (.cells #[.slice a1 n1 c1, .int .i64 tk, .int .i64 0] 25)).alloc (.cells #[.slice none 0 0, .int .i64 0, .int .i64 0] 25)).heap.size := by simp
  have k1 : W.cell? ⟨w.heap.size, 1, none⟩ = some (.int .i64 tk) := by rw [← hW, World.cell?_alloc_lt _ _ ⟨w.heap.size, 1, none⟩ la1]; simp
  have l0 : W.cell? ⟨w.heap.size + 1, 0, none⟩ = some (.slice none 0 0) := by rw [← hW, World.cell?_alloc_lt _ _ ⟨w.heap.size + 1, 0, none⟩ la2]; simp
  have l1 : W.cell? ⟨w.heap.size + 1, 1, none⟩ = some (.int .i64 0) := by rw [← hW, World.cell?_alloc_lt _ _ ⟨w.heap.size + 1, 1, none⟩ la2]; simp
  have l2 : W.cell? ⟨w.heap.size + 1, 2, none⟩ = some (.int .i64 0) := by rw [← hW, World.cell?_alloc_lt _ _ ⟨w.heap.size + 1, 2, none⟩ la2]; simp
  have fz : ∀ i, W.frozen? ⟨w.heap.size + 1, i, none⟩ = false := fun i => by rw [← hW, World.frozen?_alloc_old _ _ ⟨w.heap.size + 1, i, none⟩ (Nat.ne_of_lt la2)]; simp
  have r0 : W.cell? ⟨w.heap.size + 2, 0, none⟩ = some (.slice a1 n1 c1) := by rw [← hW, World.cell?_alloc_at _ _ _ _ (by simp)]; rfl
  have r1 : W.cell? ⟨w.heap.size + 2, 1, none⟩ = some (.slice a2 n2 c2) := by rw [← hW, World.cell?_alloc_at _ _ _ _ (by simp)]; rfl
  have HCC := hid (concatG (w.heap.size + 2) a1 n1 c1 a2 n2 c2 f f2 W (by omega) (by omega) r0 r1 (by have := zW.out; omega) (h1.below bW) (h2.below bW))
  have HBW := hid bW
  have HFZ := hid fz
  clear h1 h2 bW fz la1 la2 r0 r1
  go_enter Tryd.func6, Tryd.ntmps6
  go_wp2_with fail
  try rw [hW]
  clear hW
  refine HCC.out.mono ?_
  rintro e w3 ⟨v3, rfl, o3, b3⟩
  have hln : (payl f n1 ++ payl f2 n2).length = n1 + n2 := by rw [List.length_append, payl_len, payl_len]
  have hby : Byt (gz (payl f n1 ++ payl f2 n2)) := gz_byte (fun z hz => by
    rcases List.mem_append.1 hz with hz | hz
    · obtain ⟨i, _, rfl⟩ := List.mem_map.1 hz; exact hf i
    · obtain ⟨i, _, rfl⟩ := List.mem_map.1 hz; exact hf2 i)
  have hfo := own_form o3
  rw [hln] at hfo
  obtain ⟨F, hF⟩ : ∃ F, gz (payl f n1 ++ payl f2 n2) = F := ⟨_, rfl⟩
  rw [hF] at hfo hby
  have HFE := hid hF
  have hNle : n1 + n2 ≤ 2097152 := by omega
  obtain ⟨N, hN⟩ : ∃ N, n1 + n2 = N := ⟨_, rfl⟩
  rw [hN] at hfo hNle
  have HNE := hid hN
  obtain ⟨a, c, rfl, hfm⟩ : ∃ a c, v3 = .slice a N c ∧ ((a = none ∧ N = 0 ∧ c = 0) ∨ ∃ b, a = some ⟨b, 0, none⟩ ∧ b < w3.heap.size ∧ N ≤ c ∧ c ≤ 9223372036854775807 ∧ ∀ i, i < N → w3.cell? ⟨b, i, none⟩ = some (.int .u8 (F i))) := by
    rcases hfo with ⟨rfl, h0⟩ | ⟨g, cap, rfl, _, h1, h2, h3, h4⟩
    · exact ⟨none, 0, by rw [h0], .inl ⟨rfl, h0, rfl⟩⟩
    · exact ⟨_, cap, rfl, .inr ⟨g, rfl, h1, h2, h3, h4⟩⟩
  have b3' : Below w.heap.size w w3 := HBW.out.trans (b3.mono (by have := zW.out; omega))
  have z3 : w.heap.size + 3 ≤ w3.heap.size := by have := zW.out; have := b3.size; omega
  obtain ⟨W0, hW0⟩ : ∃ W0, w3.alloc (.cells #[.slice a N c, .int .i64 0, .int .i64 0, .int .i64 0, .int .i64 0, .int .i64 0, .slice none 0 0] 48) = W0 := ⟨_, rfl⟩
  have b30 : Below w3.heap.size w3 W0 := by rw [← hW0]; exact (Below.refl _ _).alloc (Nat.le_refl _) _
  have z0 : Hid (W0.heap.size = w3.heap.size + 1) := by rw [← hW0]; exact hid (by simp)
  have HFM : Hid (Frm W0 w3.heap.size a N c F) := hid (hfm.imp id (by
    rintro ⟨b, h1, h2, h3, h4, h5⟩
    exact ⟨b, h1, h2, h3, h4, fun i hi => (b30.cell (p := ⟨b, i, none⟩) h2).trans (h5 i hi)⟩))
  have HER : Hid (Errs W0 w3.heap.size aT aS aL aE) := hid (((hE.below ((b3'.mono hB).trans (b30.mono (by omega))))).mono (by omega))
  have HD0 : Hid (DcI W0 W0 w3.heap.size F N (feedF F N 0) 0 a c (.slice none 0 0) [] ∧ W0.cell? ⟨w3.heap.size, 1, none⟩ = some (.int .i64 0)) := hid (by
    rw [← hW0]
    refine ⟨⟨Below.refl _ _, by simp, by simp, by simp, ⟨_, by simp; rfl⟩, ⟨_, by simp; rfl⟩, by simp, by simp, fun i => by simp, Nat.zero_le _, fxr_nil _ _, rfl, rfl, by simp, Nat.le_refl _⟩, by simp⟩)
  have HB0 := hid (b3'.trans (b30.mono (by omega)))
  have hk1 := (b30.cell (p := ⟨w.heap.size, 1, none⟩) (show w.heap.size < w3.heap.size by omega)).trans ((b3.cell (p := ⟨w.heap.size, 1, none⟩) (show w.heap.size < W.heap.size by have := zW.out; omega)).trans k1)
  have hl := fun i => (b30.cell (p := ⟨w.heap.size + 1, i, none⟩) (show w.heap.size + 1 < w3.heap.size by omega)).trans (b3.cell (p := ⟨w.heap.size + 1, i, none⟩) (show w.heap.size + 1 < W.heap.size by have := zW.out; omega))
  have hl0 := (hl 0).trans l0
  have hl1 := (hl 1).trans l1
  have hl2 := (hl 2).trans l2
  have HFZ0 : Hid (∀ i, W0.frozen? ⟨w.heap.size + 1, i, none⟩ = false) := hid (fun i => ((b30.frozen (p := ⟨w.heap.size + 1, i, none⟩) (show w.heap.size + 1 < w3.heap.size by omega)).trans (b3.frozen (p := ⟨w.heap.size + 1, i, none⟩) (show w.heap.size + 1 < W.heap.size by have := zW.out; omega))).trans (HFZ.out i))
  have HBY := hid hby
  have HK1 := hid hk1
  have HL := hid (And.intro hl0 (And.intro hl1 hl2))
  clear hF hN hfm hfo o3 b3 b3' b30 hk1 hl hl0 hl1 hl2 k1 l0 l1 l2 hby hln HCC HFZ HBW hE zW
  have HW0 := hid hW0
  clear hW0
  go_wp2_with fail
  rw [HW0.out]
  clear HW0
  obtain ⟨cb, hcb⟩ : ∃ cb, w3.heap.size = cb := ⟨_, rfl⟩
  rw [hcb] at z3 z0 HFM HER HD0 ⊢
  clear hcb
  go_loopw [7] (fun nx wr => LpR W0 wr cb F N (feedF F N 0) a c nx) (fun nx wr => msr cb N nx wr)
  case atStart => exact .inr ⟨_, rfl, 0, _, _, HD0.out.1, .inl ⟨rfl, HD0.out.2⟩⟩
  case round =>
    rcases hrel with ⟨rfl, hE⟩ | ⟨k, rfl, hG⟩
    · have HE := hid hE
      have hnq := neqN
      clear hE
      go_wp2_with fail
      obtain ⟨fv, l, hD⟩ := HE.out
      obtain ⟨fa, fm, fc, rfl⟩ := row_form9 hD.fr.row
      have HD := hid hD
      have s1 := (hD.bel.cell (p := ⟨w.heap.size, 1, none⟩) (show w.heap.size < cb by omega)).trans HK1.out
      have s2 := hD.c2
      have s5 := hD.c5
      have s6 := hD.c6
      have t0 := (hD.bel.cell (p := ⟨w.heap.size + 1, 0, none⟩) (show w.heap.size + 1 < cb by omega)).trans HL.out.1
      have t1 := (hD.bel.cell (p := ⟨w.heap.size + 1, 1, none⟩) (show w.heap.size + 1 < cb by omega)).trans HL.out.2.1
      have t2 := (hD.bel.cell (p := ⟨w.heap.size + 1, 2, none⟩) (show w.heap.size + 1 < cb by omega)).trans HL.out.2.2
      have HTF : Hid (∀ i, wr.frozen? ⟨w.heap.size + 1, i, none⟩ = false) := hid (fun i => (hD.bel.frozen (p := ⟨w.heap.size + 1, i, none⟩) (show w.heap.size + 1 < cb by omega)).trans (HFZ0.out i))
      have hlt := hD.lt
      have HRS := hid (restAll (by omega) hD.drew HFM.out)
      have HBW := hid (HB0.out.trans (hD.bel.mono (by omega)))
      clear hD
      obtain ⟨q, hq⟩ : ∃ q, (feedF F N 0).2.1 = q := ⟨_, rfl⟩
      obtain ⟨x, hx⟩ : ∃ x, (feedF F N 0).1 = x := ⟨_, rfl⟩
      have HQ := hid hq
      have HXX := hid hx
      rw [hq] at s2 HRS
      rw [hx] at s5
      clear hq hx
      obtain ⟨T, hT⟩ : ∃ T, IntKind.i64.wrap (tk + (q : Int)) = T := ⟨_, rfl⟩
      have HT := hid hT
      refine wp_region_held_drew (S := fun w' => w'.cell? ⟨w.heap.size, 1, none⟩ = some (.int .i64 tk) ∧ w'.cell? ⟨cb, 2, none⟩ = some (.int .i64 (q : Int)) ∧ w'.cell? ⟨cb, 5, none⟩ = some (.int .i64 (x : Int)) ∧ w'.cell? ⟨cb, 6, none⟩ = some (.slice fa fm fc)) (by kernel_rfl) ⟨s1, s2, s5, s6⟩ (fun hHeld => ?_)
      refine take1 (i := 1) (d := some 31) (v := ?_) (by kernel_rfl) (by kernel_rfl) (by kernel_rfl) (by kernel_rfl) (fun _ _ _ h => h) ?_ hHeld ?_
      rotate_left
      · (intro o ho; simp only [List.getElem?_toArray, List.getElem?_cons_succ, List.getElem?_cons_zero, Option.some.injEq] at ho; subst ho; refine Or.inl ⟨by rfl, ?_⟩; intro w hSw; (try dsimp only at hSw); go_simp; try with_reducible rfl)
      try simp only [Act.put, List.setIfInBounds_toArray, List.set_cons_zero, List.set_cons_succ]
      refine take1 (i := 2) (d := some 32) (v := ?_) (by kernel_rfl) (by kernel_rfl) (by kernel_rfl) (by kernel_rfl) (fun _ _ _ h => h) ?_ hHeld ?_
      rotate_left
      · (intro o ho; simp only [List.getElem?_toArray, List.getElem?_cons_succ, List.getElem?_cons_zero, Option.some.injEq] at ho; subst ho; refine Or.inl ⟨by rfl, ?_⟩; intro w hSw; (try dsimp only at hSw); go_simp; try with_reducible rfl)
      try simp only [Act.put, List.setIfInBounds_toArray, List.set_cons_zero, List.set_cons_succ]
      refine take1 (i := 3) (d := some 33) (v := ?_) (by kernel_rfl) (by kernel_rfl) (by kernel_rfl) (by kernel_rfl) (fun _ _ _ h => h) ?_ hHeld ?_
      rotate_left
      · (intro o ho; simp only [List.getElem?_toArray, List.getElem?_cons_succ, List.getElem?_cons_zero, Option.some.injEq] at ho; subst ho; refine Or.inl ⟨by rfl, ?_⟩; intro w hSw; (try dsimp only at hSw); go_simp; try with_reducible rfl)
      try simp only [Act.put, List.setIfInBounds_toArray, List.set_cons_zero, List.set_cons_succ]
      refine take1 (i := 4) (d := some 34) (v := ?_) (by kernel_rfl) (by kernel_rfl) (by kernel_rfl) (by kernel_rfl) (fun _ _ _ h => h) ?_ hHeld ?_
      rotate_left
      · (intro o ho; simp only [List.getElem?_toArray, List.getElem?_cons_succ, List.getElem?_cons_zero, Option.some.injEq] at ho; subst ho; refine Or.inl ⟨by rfl, ?_⟩; intro w hSw; (try dsimp only at hSw); go_simp; try with_reducible rfl)
      try simp only [Act.put, List.setIfInBounds_toArray, List.set_cons_zero, List.set_cons_succ]
      refine take1 (i := 5) (d := some 35) (v := ?_) (by kernel_rfl) (by kernel_rfl) (by kernel_rfl) (by kernel_rfl) (fun _ _ _ h => h) ?_ hHeld ?_
      rotate_left
      · (intro o ho; simp only [List.getElem?_toArray, List.getElem?_cons_succ, List.getElem?_cons_zero, Option.some.injEq] at ho; subst ho; refine Or.inl ⟨by rfl, ?_⟩; intro w hSw; (try dsimp only at hSw); go_simp; try with_reducible rfl)
      try simp only [Act.put, List.setIfInBounds_toArray, List.set_cons_zero, List.set_cons_succ]
      refine take1 (i := 6) (d := some 36) (v := ?_) (by kernel_rfl) (by kernel_rfl) (by kernel_rfl) (by kernel_rfl) (fun _ _ _ h => h) ?_ hHeld ?_
      rotate_left
      · (intro o ho; simp only [List.getElem?_toArray, List.getElem?_cons_succ, List.getElem?_cons_zero, Option.some.injEq] at ho; subst ho; refine Or.inl ⟨by rfl, ?_⟩; intro w hSw; (try dsimp only at hSw); go_simp; try with_reducible rfl)
      try simp only [Act.put, List.setIfInBounds_toArray, List.set_cons_zero, List.set_cons_succ]
      refine take1 (i := 7) (d := some 37) (v := ?_) (by kernel_rfl) (by kernel_rfl) (by kernel_rfl) (by kernel_rfl) (fun _ _ _ h => h) ?_ hHeld ?_
      rotate_left
      · (intro o ho; simp only [List.getElem?_toArray, List.getElem?_cons_succ, List.getElem?_cons_zero, Option.some.injEq] at ho; subst ho; refine Or.inl ⟨by rfl, ?_⟩; intro w hSw; (try dsimp only at hSw); go_simp; try with_reducible rfl)
      try simp only [Act.put, List.setIfInBounds_toArray, List.set_cons_zero, List.set_cons_succ]
      refine take1 (i := 9) (d := some 39) (v := ?_) (by kernel_rfl) (by kernel_rfl) (by kernel_rfl) (by kernel_rfl) (fun _ _ _ h => h) ?_ hHeld ?_
      rotate_left
      · (intro o ho; simp only [List.getElem?_toArray, List.getElem?_cons_succ, List.getElem?_cons_zero, Option.some.injEq] at ho; subst ho; refine Or.inl ⟨by rfl, ?_⟩; intro w hSw; (try dsimp only at hSw); go_simp; try with_reducible rfl)
      try simp only [Act.put, List.setIfInBounds_toArray, List.set_cons_zero, List.set_cons_succ]
      refine take1 (i := 10) (d := some 40) (v := ?_) (by kernel_rfl) (by kernel_rfl) (by kernel_rfl) (by kernel_rfl) (fun _ _ _ h => h) ?_ hHeld ?_
      rotate_left
      · (intro o ho; simp only [List.getElem?_toArray, List.getElem?_cons_succ, List.getElem?_cons_zero, Option.some.injEq] at ho; subst ho; refine Or.inl ⟨by rfl, ?_⟩; intro w hSw; (try dsimp only at hSw); go_simp; try with_reducible rfl)
      try simp only [Act.put, List.setIfInBounds_toArray, List.set_cons_zero, List.set_cons_succ]
      refine call1 (i := 0) (d := some 30) (by kernel_rfl) (by kernel_rfl) ?_
      intro o ho hod K hK; simp only [List.getElem?_toArray, List.getElem?_cons_succ, List.getElem?_cons_zero, Option.some.injEq] at ho; subst ho
      go_simp
      refine HRS.out.mono ?_
      rintro e w5 ⟨v5, rfl, o5, b5⟩
      obtain ⟨L, hL⟩ : ∃ L, restF F N = L := ⟨_, rfl⟩
      have HLL := hid hL
      rw [hL] at o5
      clear hL
      obtain ⟨pa, pc, rfl, _⟩ := o5.any
      rw [payl_len] at o5 ⊢
      have zl : ∀ b, b ≤ cb → b < wr.drew.heap.size := fun b hb => by show _ < wr.heap.size; omega
      have zl1 := zl (w.heap.size + 1) (by omega)
      have zl0 := zl w.heap.size (by omega)
      have S5 := And.intro ((b5.cell (p := ⟨w.heap.size, 1, none⟩) zl0).trans s1) (And.intro ((b5.cell (p := ⟨cb, 2, none⟩) (zl cb (Nat.le_refl _))).trans s2) (And.intro ((b5.cell (p := ⟨cb, 5, none⟩) (zl cb (Nat.le_refl _))).trans s5) ((b5.cell (p := ⟨cb, 6, none⟩) (zl cb (Nat.le_refl _))).trans s6)))
      have m0 := (b5.cell (p := ⟨w.heap.size + 1, 0, none⟩) zl1).trans t0
      have m1 := (b5.cell (p := ⟨w.heap.size + 1, 1, none⟩) zl1).trans t1
      have m2 := (b5.cell (p := ⟨w.heap.size + 1, 2, none⟩) zl1).trans t2
      have f0 := (b5.frozen (p := ⟨w.heap.size + 1, 0, none⟩) zl1).trans (HTF.out 0)
      have f1 := (b5.frozen (p := ⟨w.heap.size + 1, 1, none⟩) zl1).trans (HTF.out 1)
      have f2' := (b5.frozen (p := ⟨w.heap.size + 1, 2, none⟩) zl1).trans (HTF.out 2)
      refine hK.out _ _ S5 (fun hHeld => ?_)
      clear hK K
      try simp only [Act.put, List.setIfInBounds_toArray, List.set_cons_zero, List.set_cons_succ]
      refine take1 (i := 8) (d := some 38) (v := ?_) (by kernel_rfl) (by kernel_rfl) (by kernel_rfl) (by kernel_rfl) (fun _ _ _ h => h) ?_ hHeld ?_
      rotate_left
      · (intro o ho; simp only [List.getElem?_toArray, List.getElem?_cons_succ, List.getElem?_cons_zero, Option.some.injEq] at ho; subst ho; refine Or.inl ⟨by rfl, ?_⟩; intro w hSw; (try dsimp only at hSw); go_simp; try with_reducible rfl)
      try simp only [Act.put, List.setIfInBounds_toArray, List.set_cons_zero, List.set_cons_succ]
      refine call1 (i := 11) (d := none) (by kernel_rfl) (by kernel_rfl) ?_
      intro o ho hod K hK; simp only [List.getElem?_toArray, List.getElem?_cons_succ, List.getElem?_cons_zero, Option.some.injEq] at ho; subst ho
      go_simp
      have G3 := grown3 w5 (w.heap.size + 1) (.slice pa L pc) (.int .i64 T) (.int .i64 (x : Int))
      have e3 := box3E (.slice pa L pc) (.int .i64 T) (.int .i64 (x : Int)) m0 m1 m2
      obtain ⟨W6, hW6⟩ : ∃ W6, ((w5.setCell ⟨w.heap.size + 1, 0, none⟩ (.slice pa L pc)).setCell ⟨w.heap.size + 1, 1, none⟩ (.int .i64 T)).setCell ⟨w.heap.size + 1, 2, none⟩ (.int .i64 (x : Int)) = W6 := ⟨_, rfl⟩
      rw [hW6] at G3 e3 ⊢
      have nb : ∀ b i, b ≤ cb → b ≠ w.heap.size + 1 → W6.cell? ⟨b, i, none⟩ = w5.cell? ⟨b, i, none⟩ := fun b i hb hne => World.cell?_of_block (a := ⟨b, i, none⟩) (G3.block b (Nat.lt_of_lt_of_le (zl b hb) b5.size) (fun e => by injection e with e; exact hne e))
      refine hK.out _ _ ⟨(nb _ 1 (by omega) (by omega)).trans S5.1, (nb _ 2 (by omega) (by omega)).trans S5.2.1, (nb _ 5 (by omega) (by omega)).trans S5.2.2.1, (nb _ 6 (by omega) (by omega)).trans S5.2.2.2⟩ (fun hHeld => ?_)
      clear hK K
      try simp only [Act.put, List.setIfInBounds_toArray, List.set_cons_zero, List.set_cons_succ]
      refine take1 (i := 12) (d := some 5) (v := ?_) (by kernel_rfl) (by kernel_rfl) (by kernel_rfl) (by kernel_rfl) (fun _ _ _ h => h) ?_ hHeld ?_
      rotate_left
      · (intro o ho; simp only [List.getElem?_toArray, List.getElem?_cons_succ, List.getElem?_cons_zero, Option.some.injEq] at ho; subst ho; refine Or.inl ⟨by rfl, ?_⟩; intro w hSw; (try dsimp only at hSw); go_simp; try with_reducible rfl)
      try simp only [Act.put, List.setIfInBounds_toArray, List.set_cons_zero, List.set_cons_succ]
      refine wpAnyH_done (by kernel_rfl) ?_ _
      obtain ⟨x0, x1, x2⟩ := e3
      have z5 : wr.heap.size ≤ w5.heap.size := b5.size
      have B6 : Hid (Below w.heap.size w W6) := hid ((HBW.out.drew.trans (b5.mono (by show _ ≤ wr.heap.size; omega))).grown G3 (by omega) (fun k hk => by injection hk with hk; omega))
      have o5lt : ∀ k, (Value.slice pa L pc).ownBlock = some k → wr.heap.size ≤ k := fun k hk => (World.ownsRow.lt o5 k hk).1
      have O6 : Hid (Own W6 w.heap.size (.slice pa L pc) (payl (shF F q) L)) := hid ((own_weak o5 (by show _ ≤ wr.heap.size; omega)).gr G3 (fun g hg e => by have := o5lt g hg; injection e with e; omega))
      have F6 : Hid (FxR W6 w.heap.size (.slice fa fm fc) l) := hid (((((HD.out.drew).fr.below b5).kept G3 (fun k e => by injection e with e; omega))).weak (by omega))
      have SP : Hid (∀ k, (Value.slice pa L pc).ownBlock = some k → (Value.slice fa fm fc).ownBlock ≠ some k ∧ ∀ i, i < l.length → (gFx l i).2.1.ownBlock ≠ some k) := hid (fun k hk => ⟨fun e => by have := o5lt k hk; have := (World.ownsRow.lt HD.out.fr.row k e).2; omega, fun i hi e => by have := o5lt k hk; have := (World.ownsRow.lt (HD.out.fr.pay i hi) k e).2; omega⟩)
      clear hHeld hW6 nb G3 o5 b5 S5 HRS m0 m1 m2 f0 f1 f2' zl zl0 zl1 HTF s1 s2 s5 s6 t0 t1 t2 hT o5lt z5 hnq
      go_wp2_with fail
      refine bodyPost_ret (v := .tuple #[.agg #[.slice pa L pc, .int .i64 T, .int .i64 (x : Int)], .slice fa fm fc]) (by simp [results, Tryd.results6, go_sem, x0, x1, x2]) rfl ?_
      refine ⟨B6.out, ?_⟩
      rw [HFE.out, HNE.out]
      refine ⟨_, _, l, by rw [HQ.out, HXX.out, HT.out], ?_, F6.out, HD.out.t3, HD.out.ll, SP.out⟩
      rw [HQ.out, HLL.out]; exact O6.out
    · have hk : k = 17 ∨ k = 27 ∨ k = 34 ∨ k = 37 ∨ k = 40 := by
        obtain ⟨_, _, _, _, hS⟩ := hG
        rcases hS with ⟨h, _⟩ | ⟨h, _⟩ | ⟨h, _⟩ | ⟨h, _⟩ | ⟨h, _⟩
        · exact .inl h
        · exact .inr (.inl h)
        · exact .inr (.inr (.inl h))
        · exact .inr (.inr (.inr (.inl h)))
        · exact .inr (.inr (.inr (.inr h)))
      rcases hk with rfl | rfl | rfl | rfl | rfl
      · have hnq := neqF 17
        have HS := hid (stepC aT aS aL aE (by omega) HBY.out HFM.out.bts.1 HER.out HFM.out.bts.2.1 HFM.out.bts.2.2 hG)
        clear hG
        go_wp2_with fail
        refine HS.out.mono ?_
        rintro e w5 ⟨nx, rfl, hL, hm⟩
        have HL5 := hid hL
        have HM5 := hid hm
        clear hL hm
        go_wp2_with fail
        go_roundw
        case rel => exact HL5.out
        case measure => exact HM5.out
      · have hnq := neqF 27
        have HS := hid (stepC aT aS aL aE (by omega) HBY.out HFM.out.bts.1 HER.out HFM.out.bts.2.1 HFM.out.bts.2.2 hG)
        clear hG
        go_wp2_with fail
        refine HS.out.mono ?_
        rintro e w5 ⟨nx, rfl, hL, hm⟩
        have HL5 := hid hL
        have HM5 := hid hm
        clear hL hm
        go_wp2_with fail
        go_roundw
        case rel => exact HL5.out
        case measure => exact HM5.out
      · have hnq := neqF 34
        have HS := hid (stepC aT aS aL aE (by omega) HBY.out HFM.out.bts.1 HER.out HFM.out.bts.2.1 HFM.out.bts.2.2 hG)
        clear hG
        go_wp2_with fail
        refine HS.out.mono ?_
        rintro e w5 ⟨nx, rfl, hL, hm⟩
        have HL5 := hid hL
        have HM5 := hid hm
        clear hL hm
        go_wp2_with fail
        go_roundw
        case rel => exact HL5.out
        case measure => exact HM5.out
      · have hnq := neqF 37
        have HS := hid (stepC aT aS aL aE (by omega) HBY.out HFM.out.bts.1 HER.out HFM.out.bts.2.1 HFM.out.bts.2.2 hG)
        clear hG
        go_wp2_with fail
        refine HS.out.mono ?_
        rintro e w5 ⟨nx, rfl, hL, hm⟩
        have HL5 := hid hL
        have HM5 := hid hm
        clear hL hm
        go_wp2_with fail
        go_roundw
        case rel => exact HL5.out
        case measure => exact HM5.out
      · have hnq := neqF 40
        have HS := hid (stepC aT aS aL aE (by omega) HBY.out HFM.out.bts.1 HER.out HFM.out.bts.2.1 HFM.out.bts.2.2 hG)
        clear hG
        go_wp2_with fail
        refine HS.out.mono ?_
        rintro e w5 ⟨nx, rfl, hL, hm⟩
        have HL5 := hid hL
        have HM5 := hid hm
        clear hL hm
        go_wp2_with fail
        go_roundw
        case rel => exact HL5.out
        case measure => exact HM5.out
theorem implFeedC (g1 n1 c1 g2 n2 c2 : Nat) (f f2 : Nat → Int) (tk : Int) (B : Nat) (aT aS aL aE : Addr) (w : World) (hn : n1 ≤ 1048576) (hn2 : n2 ≤ 1048576) (hf : Byt f) (hf2 : Byt f2) (h1 : Seg w (some ⟨g1, 0, none⟩) n1 f) (h2 : Seg w (some ⟨g2, 0, none⟩) n2 f2) (hE : Errs w B aT aS aL aE) (hB : B ≤ w.heap.size) :
    Calls Tryd.prog 6 #[.agg #[.slice (some ⟨g1, 0, none⟩) n1 c1, .int .i64 tk, .int .i64 0], .slice (some ⟨g2, 0, none⟩) n2 c2] w fun e w' => Below w.heap.size w w' ∧ FeedA w w' (gz (payl f n1 ++ payl f2 n2)) (n1 + n2) tk e :=
  implFeedG (some ⟨g1, 0, none⟩) n1 c1 (some ⟨g2, 0, none⟩) n2 c2 f f2 tk B aT aS aL aE w hn hn2 hf hf2 h1 h2 hE hB
end Go.Proofs.YthkppnmnjboiaaaDoor
