import Derived.Test.YtbimcammjohaoadGreatDoorMg36
import Derived.Deep.QuietTactic
import Derived.BigQuiet
import Derived.Test.YtbimcammjohaoadGreatDoorMg33
import Derived.Test.YtbimcammjohaoadGreatDoorMg23
import Derived.Test.YtbimcammjohaoadGreatDoorMg24
import Derived.Test.YtbimcammjohaoadGreatDoorMg32
import Derived.Test.YtbimcammjohaoadGreatDoorMg34
namespace Go.Proofs.YtbimcammjohaoadGreatDoor
open Go.ChangeShapes Go.WideShapes Go.ChangeAt Go.RowKit Go.Maps Go.Sort
set_option linter.unusedVariables false
set_option linter.unusedSimpArgs false

def dCells (l : List (Int × Int)) : List Value := l.flatMap fun d => [.int .i64 d.1, .int .i64 d.2]
theorem dCells_app (l l' : List (Int × Int)) : dCells (l ++ l') = dCells l ++ dCells l' := by simp [dCells]
def gD (l : List (Int × Int)) (i : Nat) : Int × Int := l.getD i (0, 0)
theorem dCells_get : ∀ (l : List (Int × Int)) (i : Nat), i < l.length → (dCells l)[i * 2]? = some (.int .i64 (gD l i).1) ∧ (dCells l)[i * 2 + 1]? = some (.int .i64 (gD l i).2)
  | [], i, hi => by simp at hi
  | a :: l, 0, hi => by simp [dCells, gD]
  | a :: l, i + 1, hi => by
    have := dCells_get l i (by simpa using hi)
    have e : dCells (a :: l) = .int .i64 a.1 :: .int .i64 a.2 :: dCells l := by simp [dCells]
    rw [e, show (i + 1) * 2 = i * 2 + 1 + 1 from by omega]
    simpa [gD] using this
theorem infoD : (Tryz.prog.info? 34).map (fun i => (i.zero, i.size, i.bytes)) = some (some (.agg #[.int .i64 0, .int .i64 0]), 2, 16) := by kernel_rfl
theorem OffV.news {w : World} {B size g off c n : Nat} {xs : List Value} (h : OffV w B size (.slice (some ⟨g, off, none⟩) n c) n xs) : ∀ j u, xs[j]? = some u → w.cell? ((⟨g, off, none⟩ : Addr).add j) = some u := by
  obtain ⟨g', off', c', e, hB, hg, hn, hc, hl, h1, h2, h3⟩ := h
  injection e with e1 _ e3
  injection e1 with e1
  injection e1 with e1 e2 _
  subst e1 e2 e3
  intro j u hu
  have hj : j < xs.length := (List.getElem?_eq_some_iff.1 hu).1
  have e2 : (⟨g, off, none⟩ : Addr).add j = ⟨g, off + j, none⟩ := by
    by_cases h0 : j = 0
    · subst h0; simp [Addr.add]
    · simp [Addr.add, h0]
  rw [e2, h1 j (by omega)]; exact hu
theorem fCells_one2 (l : List Rn) : ∀ u ∈ fCells l, u.oneCell' = true := fCells_one l
def SmD (l : List (Int × Int)) : Prop := ∀ d ∈ l, -100 ≤ d.1 ∧ d.1 ≤ 100
theorem cell4A (w : World) (a b c d : Value) (t : TypeId) : ∀ j u, [a, b, c, d][j]? = some u → (w.alloc (.cells #[a, b, c, d] t)).cell? ((⟨w.heap.size, 0, none⟩ : Addr).add j) = some u := by
  intro j u hj
  match j, hj with
  | 0, hj => simp at hj; subst hj; simp [Addr.add]
  | 1, hj => simp at hj; subst hj; simp [Addr.add]
  | 2, hj => simp at hj; subst hj; simp [Addr.add]
  | 3, hj => simp at hj; subst hj; simp [Addr.add]

theorem row_weak {w : World} {B B' : Nat} {e : TypeId} {s : Nat} {v : Value} {n : Nat} {xs : List Value} (h : w.ownsRow B e s v n xs) (hB : B' ≤ B) : w.ownsRow B' e s v n xs := by
  obtain ⟨h1, h2⟩ := h
  refine ⟨h1, h2.imp id ?_⟩
  rintro ⟨g, cap, cur, e, hb, r⟩
  exact ⟨g, cap, cur, e, Nat.le_trans hB hb, r⟩

set_option maxRecDepth 100000 in
set_option maxHeartbeats 2000000 in
theorem dotsC (B B' : Nat) (v v' : Value) (l l' : List Rn) (w : World) (h : OffR w B v l) (h' : OffR w B' v' l') (hl : l.length ≤ 1001) (hl' : l'.length ≤ 1001) (hb : BS l) (hb' : BS l') :
    Calls Tryz.prog 7 #[.agg #[v], .agg #[v']] w fun e w' => ∃ dv ds, e = .returned dv ∧ w'.ownsRow w.heap.size 34 2 dv ds.length (dCells ds) ∧ SmD ds ∧ ds.length ≤ 240 ∧ Below w.heap.size w w' := by
  obtain ⟨i0, hi0, iz0, iz1, iz2⟩ := info_parts Tryz.infoRun
  obtain ⟨j0, hj0, jz0, jz1, jz2⟩ := info_parts infoD
  obtain ⟨g, off, c, rfl, _, _, _, _, hgl⟩ := h.fs
  obtain ⟨g', off', c', rfl, _, _, _, _, hgl'⟩ := h'.fs
  obtain ⟨W, hW⟩ : ∃ W, (w.alloc (.cells #[.slice (some ⟨g, off, none⟩) l.length c] 25)).alloc (.cells #[.slice (some ⟨g', off', none⟩) l'.length c'] 25) = W := ⟨_, rfl⟩
  have bW : Below w.heap.size w W := by rw [← hW]; exact below2 _ _ _
  have k0 : W.cell? ⟨w.heap.size, 0, none⟩ = some (.slice (some ⟨g, off, none⟩) l.length c) := by rw [← hW]; simp
  have k1 : W.cell? ⟨w.heap.size + 1, 0, none⟩ = some (.slice (some ⟨g', off', none⟩) l'.length c') := by rw [← hW]; simp
  have zW : W.heap.size = w.heap.size + 2 := by rw [← hW]; simp
  have hO : OffR W B (.slice (some ⟨g, off, none⟩) l.length c) l := OffV.below h bW (Nat.le_refl _)
  have hO' : OffR W B' (.slice (some ⟨g', off', none⟩) l'.length c') l' := OffV.below h' bW (Nat.le_refl _)
  have HBW := hid bW
  have HZW := hid zW
  have HWQ := hid hW
  clear h h' bW zW hW
  go_enter Tryz.func7, Tryz.ntmps7
  go_wp2_with fail
  rw [HWQ.out]
  clear HWQ
  refine wp_region_held_drew (S := fun w' => Below W.heap.size W w' ∧ w'.cell? ⟨w.heap.size, 0, none⟩ = some (.slice (some ⟨g, off, none⟩) l.length c) ∧ w'.cell? ⟨w.heap.size + 1, 0, none⟩ = some (.slice (some ⟨g', off', none⟩) l'.length c')) (by kernel_rfl) ⟨(Below.refl _ _).drew, k0, k1⟩ (fun hHeld => ?_)
  refine take1 (i := 1) (d := some 10) (v := ?_) (by kernel_rfl) (by kernel_rfl) (by kernel_rfl) (by kernel_rfl) (fun _ _ _ h => h) ?_ hHeld ?_
  rotate_left
  · (intro o ho; simp only [List.getElem?_toArray, List.getElem?_cons_succ, List.getElem?_cons_zero, Option.some.injEq] at ho; subst ho; refine Or.inl ⟨by rfl, ?_⟩; intro w hSw; (try dsimp only at hSw); go_simp; try with_reducible rfl)
  try simp only [Act.put, List.setIfInBounds_toArray, List.set_cons_zero, List.set_cons_succ]
  refine take1 (i := 2) (d := some 11) (v := ?_) (by kernel_rfl) (by kernel_rfl) (by kernel_rfl) (by kernel_rfl) (fun _ _ _ h => h) ?_ hHeld ?_
  rotate_left
  · (intro o ho; simp only [List.getElem?_toArray, List.getElem?_cons_succ, List.getElem?_cons_zero, Option.some.injEq] at ho; subst ho; refine Or.inl ⟨by rfl, ?_⟩; intro w hSw; (try dsimp only at hSw); go_simp; try with_reducible rfl)
  try simp only [Act.put, List.setIfInBounds_toArray, List.set_cons_zero, List.set_cons_succ]
  refine take1 (i := 4) (d := some 13) (v := ?_) (by kernel_rfl) (by kernel_rfl) (by kernel_rfl) (by kernel_rfl) (fun _ _ _ h => h) ?_ hHeld ?_
  rotate_left
  · (intro o ho; simp only [List.getElem?_toArray, List.getElem?_cons_succ, List.getElem?_cons_zero, Option.some.injEq] at ho; subst ho; refine Or.inl ⟨by rfl, ?_⟩; intro w hSw; (try dsimp only at hSw); go_simp; try with_reducible rfl)
  try simp only [Act.put, List.setIfInBounds_toArray, List.set_cons_zero, List.set_cons_succ]
  refine take1 (i := 5) (d := some 14) (v := ?_) (by kernel_rfl) (by kernel_rfl) (by kernel_rfl) (by kernel_rfl) (fun _ _ _ h => h) ?_ hHeld ?_
  rotate_left
  · (intro o ho; simp only [List.getElem?_toArray, List.getElem?_cons_succ, List.getElem?_cons_zero, Option.some.injEq] at ho; subst ho; refine Or.inl ⟨by rfl, ?_⟩; intro w hSw; (try dsimp only at hSw); go_simp; try with_reducible rfl)
  try simp only [Act.put, List.setIfInBounds_toArray, List.set_cons_zero, List.set_cons_succ]
  refine call1 (i := 0) (d := some 9) (by kernel_rfl) (by kernel_rfl) ?_
  intro o ho hod K hK; simp only [List.getElem?_toArray, List.getElem?_cons_succ, List.getElem?_cons_zero, Option.some.injEq] at ho; subst ho
  go_simp
  obtain ⟨W2, hW2⟩ : ∃ W2, (W.alloc (.cells #[] 41)).drew = W2 := ⟨_, rfl⟩
  have b2 : Below W.heap.size W W2 := by rw [← hW2]; exact ((Below.refl _ _).alloc (Nat.le_refl _) _).drew
  have z2 : W2.heap.size = W.heap.size + 1 := by rw [← hW2]; simp
  have ho2 : W2.ownsRow W.heap.size 41 3 (.slice (some ⟨W.heap.size, 0, none⟩) 0 0) 0 [] := by
    have := World.ownsRow_lit (base := W.heap.size) (e := 41) (size := 3) W #[] 0 (Nat.le_refl _) (by unfold maxLen; omega) rfl
    rw [← hW2]; exact World.ownsRow.drew (by simpa using this)
  have zz := HZW.out
  rw [hW2]
  clear hW2
  have c0 := (b2.cell (p := ⟨w.heap.size, 0, none⟩) (show w.heap.size < W.heap.size by omega)).trans k0
  have c1 := (b2.cell (p := ⟨w.heap.size + 1, 0, none⟩) (show w.heap.size + 1 < W.heap.size by omega)).trans k1
  have hO2 : OffR W2 B (.slice (some ⟨g, off, none⟩) l.length c) l := OffV.below hO b2 (Nat.le_refl _)
  refine hK.out _ _ ⟨b2, c0, c1⟩ (fun hHeld => ?_)
  clear hK K
  try simp only [Act.put, List.setIfInBounds_toArray, List.set_cons_zero, List.set_cons_succ]
  refine call1 (i := 3) (d := some 12) (by kernel_rfl) (by kernel_rfl) ?_
  intro o ho hod K hK; simp only [List.getElem?_toArray, List.getElem?_cons_succ, List.getElem?_cons_zero, Option.some.injEq] at ho; subst ho
  rw [if_pos (by rfl)]
  refine wp_app_at _ _ _ (by rfl) W.heap.size 41 i0 _ 3 24 Tryz.underlying23 hi0 iz0 iz1 iz2 rfl (by decide) (.slice (some ⟨W.heap.size, 0, none⟩) 0 0) 0 _ (by rfl) ho2 ⟨g, off, none⟩ l.length c (fCells l) (by rfl) (fCells_len l) (OffV.news hO2) (fCells_one l) (by unfold maxLen; omega) (by omega) (by omega) ?_
  intro v3 w3 hown3 hgr3 hloc3
  have b3 : Below W.heap.size W w3 := b2.grown hgr3 (by omega) (fun k hk => (ho2.lt k hk).1)
  have z3 := b3.size
  have c30 := (b3.cell (p := ⟨w.heap.size, 0, none⟩) (show w.heap.size < W.heap.size by omega)).trans k0
  have c31 := (b3.cell (p := ⟨w.heap.size + 1, 0, none⟩) (show w.heap.size + 1 < W.heap.size by omega)).trans k1
  have hO3 : OffR w3 B' (.slice (some ⟨g', off', none⟩) l'.length c') l' := OffV.below hO' b3 (Nat.le_refl _)
  refine hK.out _ _ ⟨b3, c30, c31⟩ (fun hHeld => ?_)
  clear hK K
  try simp only [Act.put, List.setIfInBounds_toArray, List.set_cons_zero, List.set_cons_succ]
  refine call1 (i := 6) (d := some 15) (by kernel_rfl) (by kernel_rfl) ?_
  intro o ho hod K hK; simp only [List.getElem?_toArray, List.getElem?_cons_succ, List.getElem?_cons_zero, Option.some.injEq] at ho; subst ho
  rw [if_pos (by rfl)]
  refine wp_app_at _ _ _ (by rfl) W.heap.size 41 i0 _ 3 24 Tryz.underlying23 hi0 iz0 iz1 iz2 rfl (by decide) v3 (0 + l.length) _ (by rfl) hown3 ⟨g', off', none⟩ l'.length c' (fCells l') (by rfl) (fCells_len l') (OffV.news hO3) (fCells_one l') (by unfold maxLen; omega) (by omega) (by omega) ?_
  intro v6 w6 hown6 hgr6 hloc6
  have b6 : Below W.heap.size W w6 := b3.grown hgr6 (by omega) (fun k hk => (hown3.lt k hk).1)
  have c60 := (b6.cell (p := ⟨w.heap.size, 0, none⟩) (show w.heap.size < W.heap.size by omega)).trans k0
  have c61 := (b6.cell (p := ⟨w.heap.size + 1, 0, none⟩) (show w.heap.size + 1 < W.heap.size by omega)).trans k1
  refine hK.out _ _ ⟨b6, c60, c61⟩ (fun hHeld => ?_)
  clear hK K
  try simp only [Act.put, List.setIfInBounds_toArray, List.set_cons_zero, List.set_cons_succ]
  refine take1 (i := 7) (d := some 5) (v := ?_) (by kernel_rfl) (by kernel_rfl) (by kernel_rfl) (by kernel_rfl) (fun _ _ _ h => h) ?_ hHeld ?_
  rotate_left
  · (intro o ho; simp only [List.getElem?_toArray, List.getElem?_cons_succ, List.getElem?_cons_zero, Option.some.injEq] at ho; subst ho; refine Or.inl ⟨by rfl, ?_⟩; intro w hSw; (try dsimp only at hSw); go_simp; try with_reducible rfl)
  try simp only [Act.put, List.setIfInBounds_toArray, List.set_cons_zero, List.set_cons_succ]
  refine wpAnyH_done (by kernel_rfl) ?_ _
  obtain ⟨M, hM⟩ : ∃ M, l ++ l' = M := ⟨_, rfl⟩
  have hMl : M.length = l.length + l'.length := by rw [← hM, List.length_append]
  have hMF : FR w6 W.heap.size v6 M := by
    unfold FR; rw [hMl, ← hM, fCells_append]
    have := hown6
    rw [Nat.zero_add, List.nil_append] at this
    exact this
  have HBM : Hid (BS M) := hid (by
    rw [← hM]; intro p hp
    rcases List.mem_append.1 hp with hp | hp
    · exact hb p hp
    · exact hb' p hp)
  obtain ⟨am, cm, rfl, fsm, _, _⟩ := hMF.fs
  have HFS := hid fsm
  have HBX := hid (keepS HBW.out b6)
  have hM2 : M.length ≤ 2002 := by omega
  clear hHeld b2 z2 ho2 c0 c1 hO2 hown3 hgr3 hloc3 b3 z3 c30 c31 hO3 hown6 hgr6 hloc6 b6 c60 c61 hMF fsm hM hMl hO hO' k0 k1 hb hb' HBW
  obtain ⟨W7, hW7⟩ : ∃ W7, w6.alloc (.cells #[] 34) = W7 := ⟨_, rfl⟩
  have HI0 : Hid (Below w6.heap.size w6 W7 ∧ W7.ownsRow w6.heap.size 34 2 (.slice (some ⟨w6.heap.size, 0, none⟩) 0 0) 0 (dCells [])) := hid (by
    have := World.ownsRow_lit (base := w6.heap.size) (e := 34) (size := 2) w6 #[] 0 (Nat.le_refl _) (by unfold maxLen; omega) rfl
    rw [← hW7]; exact ⟨(Below.refl _ _).alloc (Nat.le_refl _) _, by simpa [dCells] using this⟩)
  have HW7 := hid hW7
  clear hW7
  go_wp2_with fail
  rw [HW7.out]
  clear HW7
  go_loopw [6, 7] (fun ov iv wr => ∃ (j : Nat) (ds : List (Int × Int)), j ≤ 40 ∧ j ≤ M.length ∧ iv = .int .i64 (j : Int) ∧ ds.length ≤ 6 * j ∧ Hid (SmD ds) ∧ Hid (Below w6.heap.size w6 wr ∧ wr.ownsRow w6.heap.size 34 2 ov ds.length (dCells ds))) (fun _ iv _ => 40 - (intOf iv).toNat)
  case atStart => exact ⟨0, [], by omega, by omega, rfl, by simp, hid (fun d hd => by cases hd), HI0⟩
  case round =>
    clear HI0
    obtain ⟨j, ds, hj40, hjM, rfl, hds, hsm, hI⟩ := hrel
    by_cases hlt : j < M.length ∧ j < 40
    · have d1 : decide ((j : Int) < (M.length : Int)) = true := by simp; omega
      have d2 : decide ((j : Int) < 40) = true := by simp; omega
      go_wp2_with fail
      go_loopw [6, 8] (fun ov dv wr => ∃ (e : Nat) (ds : List (Int × Int)), e ≤ 3 ∧ dv = .int .i64 ((e : Int) - 1) ∧ ds.length ≤ 6 * j + 2 * e ∧ Hid (SmD ds) ∧ Hid (Below w6.heap.size w6 wr ∧ wr.ownsRow w6.heap.size 34 2 ov ds.length (dCells ds))) (fun _ dv _ => (2 - intOf dv).toNat)
      case atStart => exact ⟨0, ds, by omega, by simp, by omega, hsm, hI⟩
      case round =>
        clear hI hsm hds
        obtain ⟨e, ds, he, rfl, hds, hsm, hI⟩ := hrel
        obtain ⟨dd, hdd⟩ : ∃ dd : Int, (e : Int) - 1 = dd := ⟨_, rfl⟩
        rw [hdd]
        by_cases he3 : e < 3
        · have d3 : decide (dd ≤ 1) = true := by simp; omega
          obtain ⟨gm, om, rfl, hgm, hcm⟩ : ∃ gm om, am = some ⟨gm, om, none⟩ ∧ gm < w6.heap.size ∧ ∀ i, i < M.length → w6.cell? ⟨gm, om + i * 3, none⟩ = some (.int .i64 (gR M i).1) ∧ w6.cell? ⟨gm, om + i * 3 + 1, none⟩ = some (.int .i64 (gR M i).2.1) ∧ w6.cell? ⟨gm, om + i * 3 + 2, none⟩ = some (.int .i64 (gR M i).2.2) := by
            rcases HFS.out with h0 | ⟨gm, om, ee, h1, h2⟩
            · omega
            · exact ⟨gm, om, ee, h1, h2⟩
          obtain ⟨x0, x1, x2⟩ := hcm j hlt.1
          have hp := HBM.out (gR M j) (gR_mem hlt.1)
          obtain ⟨pr, hpr⟩ : ∃ pr, (gR M j).1 = pr := ⟨_, rfl⟩
          obtain ⟨pf', hpf⟩ : ∃ pf', (gR M j).2.1 = pf' := ⟨_, rfl⟩
          obtain ⟨pt, hpt⟩ : ∃ pt, (gR M j).2.2 = pt := ⟨_, rfl⟩
          rw [hpr, hpf, hpt] at hp
          rw [hpr] at x0
          rw [hpf] at x1
          rw [hpt] at x2
          have y0 := (hI.out.1.cell (p := ⟨gm, om + j * 3, none⟩) hgm).trans x0
          have y1 := (hI.out.1.cell (p := ⟨gm, om + j * 3 + 1, none⟩) hgm).trans x1
          have y2 := (hI.out.1.cell (p := ⟨gm, om + j * 3 + 2, none⟩) hgm).trans x2
          obtain ⟨a1, ha1⟩ : ∃ a1, pf' + dd = a1 := ⟨_, rfl⟩
          obtain ⟨a2, ha2⟩ : ∃ a2, pt + dd = a2 := ⟨_, rfl⟩
          have wa1 : IntKind.i64.wrap a1 = a1 := by rw [IntKind.wrap_i64]; omega
          have wa2 : IntKind.i64.wrap a2 = a2 := by rw [IntKind.wrap_i64]; omega
          have i1 : (0 : Int) ≤ (j : Int) := Int.natCast_nonneg _
          have i2 : (j : Int) < (M.length : Int) := by omega
          have HI := hid hI.out
          have hgw : gm < wr.heap.size := Nat.lt_of_lt_of_le hgm hI.out.1.size
          have hsz := hI.out.1.size
          have HP := hid hp
          clear hI hcm x0 x1 x2 hpr hpf hpt
          go_wp2_with fail
          refine wp_region_held_drew (S := fun w' => Below w6.heap.size wr w' ∧ w'.cell? ⟨gm, om + j * 3, none⟩ = some (.int .i64 pr) ∧ w'.cell? ⟨gm, om + j * 3 + 1, none⟩ = some (.int .i64 pf') ∧ w'.cell? ⟨gm, om + j * 3 + 2, none⟩ = some (.int .i64 pt)) (by kernel_rfl) ⟨(Below.refl _ _).drew, y0, y1, y2⟩ (fun hHeld => ?_)
          refine take1 (i := 0) (d := some 31) (v := ?_) (by kernel_rfl) (by kernel_rfl) (by kernel_rfl) (by kernel_rfl) (fun _ _ _ h => h) ?_ hHeld ?_
          rotate_left
          · (intro o ho; simp only [List.getElem?_toArray, List.getElem?_cons_succ, List.getElem?_cons_zero, Option.some.injEq] at ho; subst ho; refine Or.inl ⟨by rfl, ?_⟩; intro w hSw; (try dsimp only at hSw); go_simp; try with_reducible rfl)
          try simp only [Act.put, List.setIfInBounds_toArray, List.set_cons_zero, List.set_cons_succ]
          refine take1 (i := 1) (d := some 32) (v := ?_) (by kernel_rfl) (by kernel_rfl) (by kernel_rfl) (by kernel_rfl) (fun _ _ _ h => h) ?_ hHeld ?_
          rotate_left
          · (intro o ho; simp only [List.getElem?_toArray, List.getElem?_cons_succ, List.getElem?_cons_zero, Option.some.injEq] at ho; subst ho; refine Or.inl ⟨by rfl, ?_⟩; intro w hSw; (try dsimp only at hSw); go_simp; try with_reducible rfl)
          try simp only [Act.put, List.setIfInBounds_toArray, List.set_cons_zero, List.set_cons_succ]
          refine take1 (i := 2) (d := some 33) (v := ?_) (by kernel_rfl) (by kernel_rfl) (by kernel_rfl) (by kernel_rfl) (fun _ _ _ h => h) ?_ hHeld ?_
          rotate_left
          · (intro o ho; simp only [List.getElem?_toArray, List.getElem?_cons_succ, List.getElem?_cons_zero, Option.some.injEq] at ho; subst ho; refine Or.inl ⟨by rfl, ?_⟩; intro w hSw; (try dsimp only at hSw); go_simp; try with_reducible rfl)
          try simp only [Act.put, List.setIfInBounds_toArray, List.set_cons_zero, List.set_cons_succ]
          refine take1 (i := 3) (d := some 34) (v := ?_) (by kernel_rfl) (by kernel_rfl) (by kernel_rfl) (by kernel_rfl) (fun _ _ _ h => h) ?_ hHeld ?_
          rotate_left
          · (intro o ho; simp only [List.getElem?_toArray, List.getElem?_cons_succ, List.getElem?_cons_zero, Option.some.injEq] at ho; subst ho; refine Or.inl ⟨by rfl, ?_⟩; intro w hSw; (try dsimp only at hSw); go_simp; try with_reducible rfl)
          try simp only [Act.put, List.setIfInBounds_toArray, List.set_cons_zero, List.set_cons_succ]
          refine take1 (i := 4) (d := some 35) (v := ?_) (by kernel_rfl) (by kernel_rfl) (by kernel_rfl) (by kernel_rfl) (fun _ _ _ h => h) ?_ hHeld ?_
          rotate_left
          · (intro o ho; simp only [List.getElem?_toArray, List.getElem?_cons_succ, List.getElem?_cons_zero, Option.some.injEq] at ho; subst ho; refine Or.inl ⟨by rfl, ?_⟩; intro w hSw; (try dsimp only at hSw); go_simp; try with_reducible rfl)
          try simp only [Act.put, List.setIfInBounds_toArray, List.set_cons_zero, List.set_cons_succ]
          refine take1 (i := 5) (d := some 36) (v := ?_) (by kernel_rfl) (by kernel_rfl) (by kernel_rfl) (by kernel_rfl) (fun _ _ _ h => h) ?_ hHeld ?_
          rotate_left
          · (intro o ho; simp only [List.getElem?_toArray, List.getElem?_cons_succ, List.getElem?_cons_zero, Option.some.injEq] at ho; subst ho; refine Or.inl ⟨by rfl, ?_⟩; intro w hSw; (try dsimp only at hSw); go_simp; try with_reducible rfl)
          try simp only [Act.put, List.setIfInBounds_toArray, List.set_cons_zero, List.set_cons_succ]
          refine take1 (i := 6) (d := some 37) (v := ?_) (by kernel_rfl) (by kernel_rfl) (by kernel_rfl) (by kernel_rfl) (fun _ _ _ h => h) ?_ hHeld ?_
          rotate_left
          · (intro o ho; simp only [List.getElem?_toArray, List.getElem?_cons_succ, List.getElem?_cons_zero, Option.some.injEq] at ho; subst ho; refine Or.inl ⟨by rfl, ?_⟩; intro w hSw; (try dsimp only at hSw); go_simp; try with_reducible rfl)
          try simp only [Act.put, List.setIfInBounds_toArray, List.set_cons_zero, List.set_cons_succ]
          refine take1 (i := 7) (d := some 38) (v := ?_) (by kernel_rfl) (by kernel_rfl) (by kernel_rfl) (by kernel_rfl) (fun _ _ _ h => h) ?_ hHeld ?_
          rotate_left
          · (intro o ho; simp only [List.getElem?_toArray, List.getElem?_cons_succ, List.getElem?_cons_zero, Option.some.injEq] at ho; subst ho; refine Or.inl ⟨by rfl, ?_⟩; intro w hSw; (try dsimp only at hSw); go_simp; try with_reducible rfl)
          try simp only [Act.put, List.setIfInBounds_toArray, List.set_cons_zero, List.set_cons_succ]
          refine take1 (i := 8) (d := some 39) (v := ?_) (by kernel_rfl) (by kernel_rfl) (by kernel_rfl) (by kernel_rfl) (fun _ _ _ h => h) ?_ hHeld ?_
          rotate_left
          · (intro o ho; simp only [List.getElem?_toArray, List.getElem?_cons_succ, List.getElem?_cons_zero, Option.some.injEq] at ho; subst ho; refine Or.inl ⟨by rfl, ?_⟩; intro w hSw; (try dsimp only at hSw); go_simp; try with_reducible rfl)
          try simp only [Act.put, List.setIfInBounds_toArray, List.set_cons_zero, List.set_cons_succ]
          refine take1 (i := 9) (d := some 40) (v := ?_) (by kernel_rfl) (by kernel_rfl) (by kernel_rfl) (by kernel_rfl) (fun _ _ _ h => h) ?_ hHeld ?_
          rotate_left
          · (intro o ho; simp only [List.getElem?_toArray, List.getElem?_cons_succ, List.getElem?_cons_zero, Option.some.injEq] at ho; subst ho; refine Or.inl ⟨by rfl, ?_⟩; intro w hSw; (try dsimp only at hSw); go_simp; try with_reducible rfl)
          try simp only [Act.put, List.setIfInBounds_toArray, List.set_cons_zero, List.set_cons_succ]
          refine take1 (i := 10) (d := some 41) (v := ?_) (by kernel_rfl) (by kernel_rfl) (by kernel_rfl) (by kernel_rfl) (fun _ _ _ h => h) ?_ hHeld ?_
          rotate_left
          · (intro o ho; simp only [List.getElem?_toArray, List.getElem?_cons_succ, List.getElem?_cons_zero, Option.some.injEq] at ho; subst ho; refine Or.inl ⟨by rfl, ?_⟩; intro w hSw; (try dsimp only at hSw); go_simp; try with_reducible rfl)
          try simp only [Act.put, List.setIfInBounds_toArray, List.set_cons_zero, List.set_cons_succ]
          refine take1 (i := 11) (d := some 42) (v := ?_) (by kernel_rfl) (by kernel_rfl) (by kernel_rfl) (by kernel_rfl) (fun _ _ _ h => h) ?_ hHeld ?_
          rotate_left
          · (intro o ho; simp only [List.getElem?_toArray, List.getElem?_cons_succ, List.getElem?_cons_zero, Option.some.injEq] at ho; subst ho; refine Or.inl ⟨by rfl, ?_⟩; intro w hSw; (try dsimp only at hSw); go_simp; try with_reducible rfl)
          try simp only [Act.put, List.setIfInBounds_toArray, List.set_cons_zero, List.set_cons_succ]
          refine take1 (i := 12) (d := some 43) (v := ?_) (by kernel_rfl) (by kernel_rfl) (by kernel_rfl) (by kernel_rfl) (fun _ _ _ h => h) ?_ hHeld ?_
          rotate_left
          · (intro o ho; simp only [List.getElem?_toArray, List.getElem?_cons_succ, List.getElem?_cons_zero, Option.some.injEq] at ho; subst ho; refine Or.inl ⟨by rfl, ?_⟩; intro w hSw; (try dsimp only at hSw); go_simp; try with_reducible rfl)
          try simp only [Act.put, List.setIfInBounds_toArray, List.set_cons_zero, List.set_cons_succ]
          refine take1 (i := 13) (d := some 44) (v := ?_) (by kernel_rfl) (by kernel_rfl) (by kernel_rfl) (by kernel_rfl) (fun _ _ _ h => h) ?_ hHeld ?_
          rotate_left
          · (intro o ho; simp only [List.getElem?_toArray, List.getElem?_cons_succ, List.getElem?_cons_zero, Option.some.injEq] at ho; subst ho; refine Or.inl ⟨by rfl, ?_⟩; intro w hSw; (try dsimp only at hSw); go_simp; try with_reducible rfl)
          try simp only [Act.put, List.setIfInBounds_toArray, List.set_cons_zero, List.set_cons_succ]
          refine take1 (i := 14) (d := some 45) (v := ?_) (by kernel_rfl) (by kernel_rfl) (by kernel_rfl) (by kernel_rfl) (fun _ _ _ h => h) ?_ hHeld ?_
          rotate_left
          · (intro o ho; simp only [List.getElem?_toArray, List.getElem?_cons_succ, List.getElem?_cons_zero, Option.some.injEq] at ho; subst ho; refine Or.inl ⟨by rfl, ?_⟩; intro w hSw; (try dsimp only at hSw); go_simp; try with_reducible rfl)
          try simp only [Act.put, List.setIfInBounds_toArray, List.set_cons_zero, List.set_cons_succ]
          refine take1 (i := 15) (d := some 46) (v := ?_) (by kernel_rfl) (by kernel_rfl) (by kernel_rfl) (by kernel_rfl) (fun _ _ _ h => h) ?_ hHeld ?_
          rotate_left
          · (intro o ho; simp only [List.getElem?_toArray, List.getElem?_cons_succ, List.getElem?_cons_zero, Option.some.injEq] at ho; subst ho; refine Or.inl ⟨by rfl, ?_⟩; intro w hSw; (try dsimp only at hSw); go_simp; try with_reducible rfl)
          try simp only [Act.put, List.setIfInBounds_toArray, List.set_cons_zero, List.set_cons_succ]
          refine take1 (i := 16) (d := some 47) (v := ?_) (by kernel_rfl) (by kernel_rfl) (by kernel_rfl) (by kernel_rfl) (fun _ _ _ h => h) ?_ hHeld ?_
          rotate_left
          · (intro o ho; simp only [List.getElem?_toArray, List.getElem?_cons_succ, List.getElem?_cons_zero, Option.some.injEq] at ho; subst ho; refine Or.inl ⟨by rfl, ?_⟩; intro w hSw; (try dsimp only at hSw); go_simp; try with_reducible rfl)
          try simp only [Act.put, List.setIfInBounds_toArray, List.set_cons_zero, List.set_cons_succ]
          refine take1 (i := 17) (d := some 48) (v := ?_) (by kernel_rfl) (by kernel_rfl) (by kernel_rfl) (by kernel_rfl) (fun _ _ _ h => h) ?_ hHeld ?_
          rotate_left
          · (intro o ho; simp only [List.getElem?_toArray, List.getElem?_cons_succ, List.getElem?_cons_zero, Option.some.injEq] at ho; subst ho; refine Or.inl ⟨by rfl, ?_⟩; intro w hSw; (try dsimp only at hSw); go_simp; try with_reducible rfl)
          try simp only [Act.put, List.setIfInBounds_toArray, List.set_cons_zero, List.set_cons_succ]
          refine take1 (i := 18) (d := some 49) (v := ?_) (by kernel_rfl) (by kernel_rfl) (by kernel_rfl) (by kernel_rfl) (fun _ _ _ h => h) ?_ hHeld ?_
          rotate_left
          · (intro o ho; simp only [List.getElem?_toArray, List.getElem?_cons_succ, List.getElem?_cons_zero, Option.some.injEq] at ho; subst ho; refine Or.inl ⟨by rfl, ?_⟩; intro w hSw; (try dsimp only at hSw); go_simp; try with_reducible rfl)
          try simp only [Act.put, List.setIfInBounds_toArray, List.set_cons_zero, List.set_cons_succ]
          refine take1 (i := 19) (d := some 50) (v := ?_) (by kernel_rfl) (by kernel_rfl) (by kernel_rfl) (by kernel_rfl) (fun _ _ _ h => h) ?_ hHeld ?_
          rotate_left
          · (intro o ho; simp only [List.getElem?_toArray, List.getElem?_cons_succ, List.getElem?_cons_zero, Option.some.injEq] at ho; subst ho; refine Or.inl ⟨by rfl, ?_⟩; intro w hSw; (try dsimp only at hSw); go_simp; try with_reducible rfl)
          try simp only [Act.put, List.setIfInBounds_toArray, List.set_cons_zero, List.set_cons_succ]
          refine take1 (i := 20) (d := some 51) (v := ?_) (by kernel_rfl) (by kernel_rfl) (by kernel_rfl) (by kernel_rfl) (fun _ _ _ h => h) ?_ hHeld ?_
          rotate_left
          · (intro o ho; simp only [List.getElem?_toArray, List.getElem?_cons_succ, List.getElem?_cons_zero, Option.some.injEq] at ho; subst ho; refine Or.inl ⟨by rfl, ?_⟩; intro w hSw; (try dsimp only at hSw); go_simp; try with_reducible rfl)
          try simp only [Act.put, List.setIfInBounds_toArray, List.set_cons_zero, List.set_cons_succ]
          refine take1 (i := 21) (d := some 52) (v := ?_) (by kernel_rfl) (by kernel_rfl) (by kernel_rfl) (by kernel_rfl) (fun _ _ _ h => h) ?_ hHeld ?_
          rotate_left
          · (intro o ho; simp only [List.getElem?_toArray, List.getElem?_cons_succ, List.getElem?_cons_zero, Option.some.injEq] at ho; subst ho; refine Or.inl ⟨by rfl, ?_⟩; intro w hSw; (try dsimp only at hSw); go_simp; try with_reducible rfl)
          try simp only [Act.put, List.setIfInBounds_toArray, List.set_cons_zero, List.set_cons_succ]
          refine take1 (i := 22) (d := some 53) (v := ?_) (by kernel_rfl) (by kernel_rfl) (by kernel_rfl) (by kernel_rfl) (fun _ _ _ h => h) ?_ hHeld ?_
          rotate_left
          · (intro o ho; simp only [List.getElem?_toArray, List.getElem?_cons_succ, List.getElem?_cons_zero, Option.some.injEq] at ho; subst ho; refine Or.inl ⟨by rfl, ?_⟩; intro w hSw; (try dsimp only at hSw); go_simp; try with_reducible rfl)
          try simp only [Act.put, List.setIfInBounds_toArray, List.set_cons_zero, List.set_cons_succ]
          refine take1 (i := 23) (d := some 54) (v := ?_) (by kernel_rfl) (by kernel_rfl) (by kernel_rfl) (by kernel_rfl) (fun _ _ _ h => h) ?_ hHeld ?_
          rotate_left
          · (intro o ho; simp only [List.getElem?_toArray, List.getElem?_cons_succ, List.getElem?_cons_zero, Option.some.injEq] at ho; subst ho; refine Or.inl ⟨by rfl, ?_⟩; intro w hSw; (try dsimp only at hSw); go_simp; try with_reducible rfl)
          try simp only [Act.put, List.setIfInBounds_toArray, List.set_cons_zero, List.set_cons_succ]
          refine take1 (i := 24) (d := some 55) (v := ?_) (by kernel_rfl) (by kernel_rfl) (by kernel_rfl) (by kernel_rfl) (fun _ _ _ h => h) ?_ hHeld ?_
          rotate_left
          · (intro o ho; simp only [List.getElem?_toArray, List.getElem?_cons_succ, List.getElem?_cons_zero, Option.some.injEq] at ho; subst ho; refine Or.inl ⟨by rfl, ?_⟩; intro w hSw; (try dsimp only at hSw); go_simp; try with_reducible rfl)
          try simp only [Act.put, List.setIfInBounds_toArray, List.set_cons_zero, List.set_cons_succ]
          refine take1 (i := 25) (d := some 56) (v := ?_) (by kernel_rfl) (by kernel_rfl) (by kernel_rfl) (by kernel_rfl) (fun _ _ _ h => h) ?_ hHeld ?_
          rotate_left
          · (intro o ho; simp only [List.getElem?_toArray, List.getElem?_cons_succ, List.getElem?_cons_zero, Option.some.injEq] at ho; subst ho; refine Or.inl ⟨by rfl, ?_⟩; intro w hSw; (try dsimp only at hSw); go_simp; try with_reducible rfl)
          try simp only [Act.put, List.setIfInBounds_toArray, List.set_cons_zero, List.set_cons_succ]
          refine take1 (i := 26) (d := some 57) (v := ?_) (by kernel_rfl) (by kernel_rfl) (by kernel_rfl) (by kernel_rfl) (fun _ _ _ h => h) ?_ hHeld ?_
          rotate_left
          · (intro o ho; simp only [List.getElem?_toArray, List.getElem?_cons_succ, List.getElem?_cons_zero, Option.some.injEq] at ho; subst ho; refine Or.inl ⟨by rfl, ?_⟩; intro w hSw; (try dsimp only at hSw); go_simp; try with_reducible rfl)
          try simp only [Act.put, List.setIfInBounds_toArray, List.set_cons_zero, List.set_cons_succ]
          refine call1 (i := 27) (d := some 58) (by kernel_rfl) (by kernel_rfl) ?_
          intro o ho hod K hK; simp only [List.getElem?_toArray, List.getElem?_cons_succ, List.getElem?_cons_zero, Option.some.injEq] at ho; subst ho
          go_simp
          obtain ⟨W8, hW8⟩ : ∃ W8, (wr.alloc (.cells #[.int .i64 pr, .int .i64 a1, .int .i64 pr, .int .i64 a2] 34)).drew = W8 := ⟨_, rfl⟩
          have b8 : Below wr.heap.size wr W8 := by rw [← hW8]; exact ((Below.refl _ _).alloc (Nat.le_refl _) _).drew
          have z8 : W8.heap.size = wr.heap.size + 1 := by rw [← hW8]; simp
          have hn8 : ∀ j u, [Value.int .i64 pr, .int .i64 a1, .int .i64 pr, .int .i64 a2][j]? = some u → W8.cell? ((⟨wr.heap.size, 0, none⟩ : Addr).add j) = some u := by rw [← hW8]; exact cell4A wr _ _ _ _ _
          have ho8 : W8.ownsRow w6.heap.size 34 2 u6 ds.length (dCells ds) := by rw [← hW8]; exact World.ownsRow.drew (World.ownsRow.alloc HI.out.2 _)
          rw [hW8]
          clear hW8
          have q0 := (b8.cell (p := ⟨gm, om + j * 3, none⟩) hgw).trans y0
          have q1 := (b8.cell (p := ⟨gm, om + j * 3 + 1, none⟩) hgw).trans y1
          have q2 := (b8.cell (p := ⟨gm, om + j * 3 + 2, none⟩) hgw).trans y2
          refine hK.out _ _ ⟨b8.mono hsz, q0, q1, q2⟩ (fun hHeld => ?_)
          clear hK K
          try simp only [Act.put, List.setIfInBounds_toArray, List.set_cons_zero, List.set_cons_succ]
          refine call1 (i := 28) (d := some 59) (by kernel_rfl) (by kernel_rfl) ?_
          intro o ho hod K hK; simp only [List.getElem?_toArray, List.getElem?_cons_succ, List.getElem?_cons_zero, Option.some.injEq] at ho; subst ho
          rw [if_pos (by rfl)]
          refine wp_app_at _ _ _ (by rfl) w6.heap.size 34 j0 _ 2 16 Tryz.underlying30 hj0 jz0 jz1 jz2 rfl (by decide) u6 ds.length _ (by rfl) ho8 ⟨wr.heap.size, 0, none⟩ 2 2 [.int .i64 pr, .int .i64 a1, .int .i64 pr, .int .i64 a2] (by rfl) (by rfl) hn8 (by intro u hu; simp at hu; rcases hu with rfl | rfl | rfl | rfl <;> rfl) (by unfold maxLen; omega) (by omega) (by omega) ?_
          intro v9 w9 hown9 hgr9 hloc9
          have b9 : Below w6.heap.size wr w9 := (b8.mono hsz).grown hgr9 (by omega) (fun k hk => (ho8.lt k hk).1)
          have r0 := (b9.cell (p := ⟨gm, om + j * 3, none⟩) hgm).trans y0
          have r1 := (b9.cell (p := ⟨gm, om + j * 3 + 1, none⟩) hgm).trans y1
          have r2 := (b9.cell (p := ⟨gm, om + j * 3 + 2, none⟩) hgm).trans y2
          refine hK.out _ _ ⟨b9, r0, r1, r2⟩ (fun hHeld => ?_)
          clear hK K
          try simp only [Act.put, List.setIfInBounds_toArray, List.set_cons_zero, List.set_cons_succ]
          refine take1 (i := 29) (d := some 6) (v := ?_) (by kernel_rfl) (by kernel_rfl) (by kernel_rfl) (by kernel_rfl) (fun _ _ _ h => h) ?_ hHeld ?_
          rotate_left
          · (intro o ho; simp only [List.getElem?_toArray, List.getElem?_cons_succ, List.getElem?_cons_zero, Option.some.injEq] at ho; subst ho; refine Or.inl ⟨by rfl, ?_⟩; intro w hSw; (try dsimp only at hSw); go_simp; try with_reducible rfl)
          try simp only [Act.put, List.setIfInBounds_toArray, List.set_cons_zero, List.set_cons_succ]
          refine wpAnyH_done (by kernel_rfl) ?_ _
          have HN : Hid (Below w6.heap.size w6 w9 ∧ w9.ownsRow w6.heap.size 34 2 v9 (ds ++ [(pr, a1), (pr, a2)]).length (dCells (ds ++ [(pr, a1), (pr, a2)]))) := hid ⟨HI.out.1.trans b9, by rw [List.length_append, dCells_app]; exact hown9⟩
          have HSM : Hid (SmD (ds ++ [(pr, a1), (pr, a2)])) := hid (fun d hd => by
            rcases List.mem_append.1 hd with hd | hd
            · exact hsm.out d hd
            · have := HP.out
              simp at hd; rcases hd with rfl | rfl <;> simp only <;> omega)
          obtain ⟨ya, yc, hye⟩ : ∃ ya yc, v9 = .slice ya (ds.length + 2) yc := by
            rcases hown9.2 with ⟨_, e0⟩ | ⟨g, cap, cur, e, _⟩
            · omega
            · exact ⟨_, cap, e⟩
          subst hye
          clear hHeld b8 z8 hn8 ho8 q0 q1 q2 hown9 hgr9 hloc9 b9 r0 r1 r2 y0 y1 y2 wa1 wa2 HI
          go_wp2_with fail
          go_roundw
          case rel => exact ⟨e + 1, _, by omega, by rw [Value.int.injEq]; refine ⟨rfl, ?_⟩; omega, by rw [List.length_append]; simp only [List.length_cons, List.length_nil]; omega, HSM, HN⟩
          case measure => simp [intOf]; omega
        · have d3 : decide (dd ≤ 1) = false := by simp; omega
          go_wp2_with fail
          go_roundw
          case rel => exact ⟨j + 1, ds, by omega, by omega, by go_num, by omega, hsm, hI⟩
          case measure => simp [intOf]; omega
    · have HEND : Hid (Below w.heap.size w wr ∧ wr.ownsRow w.heap.size 34 2 u6 ds.length (dCells ds)) := hid ⟨keepS HBX.out hI.out.1, row_weak hI.out.2 HBX.out.size⟩
      clear hI
      by_cases h1 : j < M.length
      · have d1 : decide ((j : Int) < (M.length : Int)) = true := by simp; omega
        have d2 : decide ((j : Int) < 40) = false := by simp; omega
        go_wp2_with fail
        go_ret
        exact ⟨_, ds, rfl, HEND.out.2, hsm.out, by omega, HEND.out.1⟩
      · have d1 : decide ((j : Int) < (M.length : Int)) = false := by simp; omega
        go_wp2_with fail
        go_ret
        exact ⟨_, ds, rfl, HEND.out.2, hsm.out, by omega, HEND.out.1⟩
end Go.Proofs.YtbimcammjohaoadGreatDoor

namespace Go.Proofs.YtbimcammjohaoadGreatDoor.fnContext
open Go.ChangeShapes Go.WideShapes Go.ChangeAt Go.RowKit Go.Maps Go.Sort Go.Proofs.YtbimcammjohaoadGreatDoor
set_option linter.unusedVariables false
set_option linter.unusedSimpArgs false

theorem OffR.rs {w : World} {B g off n c : Nat} {l : List Rn} (h : OffR w B (.slice (some ⟨g, off, none⟩) n c) l) : RSeg w (some ⟨g, off, none⟩) l.length (lR l) (lF l) (lT l) := by
  obtain ⟨g', off', c', e, fs, _⟩ := h.fs
  injection e with e1 _ _
  rw [e1]; exact fs.rseg
theorem FR.rs {w : World} {B : Nat} {v : Value} {l : List Rn} (h : FR w B v l) : ∃ a c, v = .slice a l.length c ∧ RSeg w a l.length (lR l) (lF l) (lT l) := by
  obtain ⟨a, c, e, fs, _⟩ := h.fs
  exact ⟨a, c, e, fs.rseg⟩

structure Bx3 (w : World) (b3 b4 b7 : Nat) (va vb vc : Value) : Prop where
  k3 : w.cell? ⟨b3, 0, none⟩ = some va
  k4 : w.cell? ⟨b4, 0, none⟩ = some vb
  k7 : w.cell? ⟨b7, 0, none⟩ = some vc
  l3 : b3 < w.heap.size
  l4 : b4 < w.heap.size
  l7 : b7 < w.heap.size
theorem Bx3.below {w w' : World} {b3 b4 b7 : Nat} {va vb vc : Value} (h : Bx3 w b3 b4 b7 va vb vc) (hb : Below w.heap.size w w') : Bx3 w' b3 b4 b7 va vb vc :=
  ⟨(hb.cell (p := ⟨b3, 0, none⟩) h.l3).trans h.k3, (hb.cell (p := ⟨b4, 0, none⟩) h.l4).trans h.k4, (hb.cell (p := ⟨b7, 0, none⟩) h.l7).trans h.k7, Nat.lt_of_lt_of_le h.l3 hb.size, Nat.lt_of_lt_of_le h.l4 hb.size, Nat.lt_of_lt_of_le h.l7 hb.size⟩

set_option maxRecDepth 100000 in
set_option maxHeartbeats 4000000 in
theorem walk (w : World) (a1 : Option Addr) (n1 c1 : Nat) (f1 : Nat → Int) (aT aS aL aE : Addr) (hn1 : n1 ≤ 9223372036854775807) (hnc1 : n1 ≤ c1) (s1 : Seg w a1 n1 f1) (hf1 : Byt f1) (hE : Errs w w.heap.size aT aS aL aE) :
    Calls Tryz.prog 3 #[.slice a1 n1 c1] w fun e w' => e = .returned (.bool true) ∧ Below w.heap.size w w' := by
  by_cases hl1 : n1 ≤ 1048576
  · have HDU := hid (drawUnion a1 n1 c1 f1 w hnc1 hn1 s1 hf1)
    have HER := hid hE
    clear s1 hf1 hE
    go_enter Tryz.func3, Tryz.ntmps3
    go_wp2_with fail
    refine HDU.out.mono ?_
    rintro e w1 ⟨va, la, vb, lb, rfl, oa, ob, hla, hlb, hba, hbb, b1⟩
    obtain ⟨ga, fa, ca, rfl, _, _, _, _, hga⟩ := oa.fs
    obtain ⟨gb, fb, cb, rfl, _, _, _, _, hgb⟩ := ob.fs
    obtain ⟨W1, hW1⟩ : ∃ W1, (w1.alloc (.cells #[.slice (some ⟨ga, fa, none⟩) la.length ca] 25)).alloc (.cells #[.slice (some ⟨gb, fb, none⟩) lb.length cb] 25) = W1 := ⟨_, rfl⟩
    have bW1 : Below w1.heap.size w1 W1 := by rw [← hW1]; exact below2 _ _ _
    have k3 : W1.cell? ⟨w1.heap.size, 0, none⟩ = some (.slice (some ⟨ga, fa, none⟩) la.length ca) := by rw [← hW1]; simp
    have k4 : W1.cell? ⟨w1.heap.size + 1, 0, none⟩ = some (.slice (some ⟨gb, fb, none⟩) lb.length cb) := by rw [← hW1]; simp
    have zW1 : W1.heap.size = w1.heap.size + 2 := by rw [← hW1]; simp
    have oa1 : OffR W1 w.heap.size (.slice (some ⟨ga, fa, none⟩) la.length ca) la := OffV.below oa bW1 (Nat.le_refl _)
    have ob1 : OffR W1 w.heap.size (.slice (some ⟨gb, fb, none⟩) lb.length cb) lb := OffV.below ob bW1 (Nat.le_refl _)
    have HB1 := hid (keepS b1 bW1)
    have HOA := hid oa1
    have HOB := hid ob1
    have HSU := hid (specUn ga fa la.length ca (lR la) (lF la) (lT la) (some ⟨gb, fb, none⟩) lb.length cb (lR lb) (lF lb) (lT lb) W1 (by omega) (by omega) (OffR.rs oa1) (OffR.rs ob1))
    obtain ⟨ub, hub⟩ : ∃ ub, unB (lR la) (lF la) (lT la) la.length (lR lb) (lF lb) (lT lb) lb.length = ub := ⟨_, rfl⟩
    obtain ⟨uz, huz⟩ : ∃ uz, unZ (lR la) (lF la) (lT la) la.length (lR lb) (lF lb) (lT lb) lb.length = uz := ⟨_, rfl⟩
    rw [hub, huz] at HSU
    have HW1 := hid hW1
    have HZ1 := hid zW1
    clear oa ob b1 bW1 oa1 ob1 HDU hW1 zW1
    go_wp2_with fail
    rw [HW1.out]
    clear HW1
    refine HSU.out.mono ?_
    rintro e w2 ⟨v2, rfl, fr2, b2⟩
    obtain ⟨a2, c2, rfl, _⟩ := FR.rs fr2
    obtain ⟨W2, hW2⟩ : ∃ W2, w2.alloc (.cells #[.slice a2 uz.length c2] 25) = W2 := ⟨_, rfl⟩
    have bW2 : Below w2.heap.size w2 W2 := by rw [← hW2]; exact (Below.refl _ _).alloc (Nat.le_refl _) _
    have b12 := keepS b2 bW2
    have zz1 := HZ1.out
    have q3 := (b12.cell (p := ⟨w1.heap.size, 0, none⟩) (show w1.heap.size < W1.heap.size by omega)).trans k3
    have q4 := (b12.cell (p := ⟨w1.heap.size + 1, 0, none⟩) (show w1.heap.size + 1 < W1.heap.size by omega)).trans k4
    have oa2 : OffR W2 w.heap.size (.slice (some ⟨ga, fa, none⟩) la.length ca) la := OffV.below HOA.out b12 (Nat.le_refl _)
    have ob2 : OffR W2 w.heap.size (.slice (some ⟨gb, fb, none⟩) lb.length cb) lb := OffV.below HOB.out b12 (Nat.le_refl _)
    have HIU := hid (implUn (some ⟨ga, fa, none⟩) la.length ca (lR la) (lF la) (lT la) (some ⟨gb, fb, none⟩) lb.length cb (lR lb) (lF lb) (lT lb) W2 (by omega) (by omega) (OffR.rs oa2) (OffR.rs ob2))
    rw [hub, huz] at HIU
    have HB2 := hid (keepS HB1.out b12)
    have HOA2 := hid oa2
    have HOB2 := hid ob2
    have zW2 : w1.heap.size + 1 < W2.heap.size := by have := b12.size; omega
    clear fr2 b2 bW2 b12 k3 k4 oa2 ob2 HOA HOB HSU HB1 zz1
    go_wp2_with fail
    try rw [hW2]
    clear hW2
    refine HIU.out.mono ?_
    rintro e w3 ⟨vc, rfl, fr3, b3⟩
    obtain ⟨ac, cc, rfl, rc3⟩ := FR.rs fr3
    obtain ⟨W3, hW3⟩ : ∃ W3, w3.alloc (.cells #[.slice ac uz.length cc] 25) = W3 := ⟨_, rfl⟩
    have bW3 : Below w3.heap.size w3 W3 := by rw [← hW3]; exact (Below.refl _ _).alloc (Nat.le_refl _) _
    have b23 := keepS b3 bW3
    have z33 : W3.heap.size = w3.heap.size + 1 := by rw [← hW3]; simp
    have p3 := (b23.cell (p := ⟨w1.heap.size, 0, none⟩) (show w1.heap.size < W2.heap.size by omega)).trans q3
    have p4 := (b23.cell (p := ⟨w1.heap.size + 1, 0, none⟩) zW2).trans q4
    have p7 : W3.cell? ⟨w3.heap.size, 0, none⟩ = some (.slice ac uz.length cc) := by rw [← hW3]; simp
    have BX : Hid (Bx3 W3 w1.heap.size (w1.heap.size + 1) w3.heap.size (.slice (some ⟨ga, fa, none⟩) la.length ca) (.slice (some ⟨gb, fb, none⟩) lb.length cb) (.slice ac uz.length cc)) := hid ⟨p3, p4, p7, by have := b3.size; omega, by have := b3.size; omega, by omega⟩
    have SA := hid (OffR.rs (OffV.below HOA2.out b23 (Nat.le_refl _)))
    have SB := hid (OffR.rs (OffV.below HOB2.out b23 (Nat.le_refl _)))
    have SC := hid (rc3.below bW3)
    have HOA3 : Hid (OffR W3 w.heap.size (.slice (some ⟨ga, fa, none⟩) la.length ca) la) := hid (OffV.below HOA2.out b23 (Nat.le_refl _))
    have HOB3 : Hid (OffR W3 w.heap.size (.slice (some ⟨gb, fb, none⟩) lb.length cb) lb) := hid (OffV.below HOB2.out b23 (Nat.le_refl _))
    have HB3 := hid (keepS HB2.out b23)
    have HUB := hid hub
    have HUZ := hid huz
    have dub : (ub != ub) = false := by simp
    clear fr3 b3 rc3 bW3 b23 q3 q4 HOA2 HOB2 HIU HB2 z33 zW2 hub huz
    cases ub
    · have hz0 : uz.length = 0 := by
        have e : unZ (lR la) (lF la) (lT la) la.length (lR lb) (lF lb) (lT lb) lb.length = [] := by unfold unZ; rw [HUB.out]; rfl
        rw [← HUZ.out, e]; rfl
      have dz : ((uz.length : Int) == 0) = true := by rw [hz0]; rfl
      clear hz0
      go_wp2_with fail
      try rw [hW3]
      go_ret
      exact ⟨rfl, HB3.out⟩
    · have HDT := hid (dotsC _ _ _ _ la lb W3 HOA3.out HOB3.out hla hlb hba hbb)
      have hcl : uz = unL (lR la) (lF la) (lT la) la.length (lR lb) (lF lb) (lT lb) lb.length := by rw [← HUZ.out]; unfold unZ; rw [HUB.out]; rfl
      have HHAS : Hid (∀ r q, hasB (lR uz) (lF uz) (lT uz) r q uz.length = (hasB (lR la) (lF la) (lT la) r q la.length || hasB (lR lb) (lF lb) (lT lb) r q lb.length)) := hid (fun r q => by rw [hcl]; exact un_has HUB.out r q)
      have HCTX : Hid (ctxB (lR uz) (lF uz) (lT uz) uz.length = true) := hid (by rw [hcl]; exact un_ctx HUB.out)
      have HCV1 : Hid (covB (lR uz) (lF uz) (lT uz) (lR la) (lF la) (lT la) uz.length la.length = true) := hid (by rw [hcl]; exact un_cov1 HUB.out)
      have HCV2 : Hid (covB (lR uz) (lF uz) (lT uz) (lR lb) (lF lb) (lT lb) uz.length lb.length = true) := hid (by rw [hcl]; exact un_cov2 HUB.out)
      have HCA : Hid (ctxB (lR la) (lF la) (lT la) la.length = true ∧ ctxB (lR lb) (lF lb) (lT lb) lb.length = true ∧ uz.length ≤ 1000) := hid (by
        have := un_parts HUB.out
        exact ⟨this.1, this.2.1, by rw [hcl]; exact this.2.2.1⟩)
      clear hcl HUZ HUB
      go_wp2_with fail
      try rw [hW3]
      clear hW3 p3 p4 p7
      refine HDT.out.mono ?_
      rintro e w4 ⟨dv, ds, rfl, od, hsd, hdl, b4⟩
      have BX4 := hid (BX.out.below b4)
      have SA4 := hid (SA.out.below b4)
      have SB4 := hid (SB.out.below b4)
      have SC4 := hid (SC.out.below b4)
      have HB4 := hid (keepS HB3.out b4)
      obtain ⟨ad, cd, hde⟩ : ∃ ad cd, dv = .slice ad ds.length cd := by
        rcases od.2 with ⟨e, e0⟩ | ⟨g, cap, cur, e, _⟩
        · exact ⟨none, 0, by rw [e, e0]⟩
        · exact ⟨_, cap, e⟩
      subst hde
      have HOD := hid od
      have HSD := hid hsd
      clear od hsd b4 BX SA SB SC HOA3 HOB3 HB3 HDT hba hbb
      go_wp2_with fail
      go_loopw [10] (fun iv wr => ∃ j : Nat, j ≤ ds.length ∧ iv = .int .i64 (j : Int) ∧ Hid (Below w4.heap.size w4 wr)) (fun iv _ => ds.length - (intOf iv).toNat)
      case atStart => exact ⟨0, Nat.zero_le _, rfl, hid (Below.refl _ _)⟩
      case round =>
        obtain ⟨j, hj, rfl, hbl⟩ := hrel
        have BXr := BX4.out.below hbl.out
        have kk3 := BXr.k3
        have kk4 := BXr.k4
        have kk7 := BXr.k7
        have m3 := BXr.l3
        have m4 := BXr.l4
        have m7 := BXr.l7
        have SAr := hid (SA4.out.below hbl.out)
        have SBr := hid (SB4.out.below hbl.out)
        have SCr := hid (SC4.out.below hbl.out)
        clear BXr
        by_cases hlt : j < ds.length
        · have dlt : decide ((j : Int) < (ds.length : Int)) = true := by simp; omega
          obtain ⟨gd, rfl, hgd⟩ : ∃ gd, ad = some ⟨gd, 0, none⟩ ∧ gd < w4.heap.size := by
            rcases HOD.out.2 with ⟨e, e0⟩ | ⟨g, cap, cur, e, _⟩
            · omega
            · have hh := (HOD.out.lt g (by rw [e]; rfl)).2
              injection e with e1 _ _
              exact ⟨g, e1, hh⟩
          obtain ⟨rr, hrr⟩ : ∃ rr, (gD ds j).1 = rr := ⟨_, rfl⟩
          obtain ⟨qq, hqq⟩ : ∃ qq, (gD ds j).2 = qq := ⟨_, rfl⟩
          have xx0 : wr.cell? ⟨gd, j * 2, none⟩ = some (.int .i64 rr) := by
            rw [hbl.out.cell (p := ⟨gd, j * 2, none⟩) hgd, HOD.out.cellAt _ (by omega), (dCells_get ds j hlt).1, hrr]
          have xx1 : wr.cell? ⟨gd, j * 2 + 1, none⟩ = some (.int .i64 qq) := by
            rw [hbl.out.cell (p := ⟨gd, j * 2 + 1, none⟩) hgd, HOD.out.cellAt _ (by omega), (dCells_get ds j hlt).2, hqq]
          have hwf : (Lit.int .i64 rr).wf = true := by
            have hm : gD ds j ∈ ds := by
              have e : gD ds j = ds[j] := by simp [gD, List.getD, hlt]
              rw [e]; exact List.getElem_mem hlt
            have := HSD.out _ hm
            exact wfI (by omega) (by omega)
          have md : gd < wr.heap.size := Nat.lt_of_lt_of_le hgd hbl.out.size
          have HA : Hid (∀ w', Below wr.heap.size wr w' → Calls Tryz.prog 8 #[.agg #[.slice (some ⟨ga, fa, none⟩) la.length ca], .agg #[.int .i64 rr, .int .i64 qq]] w' fun e w2 => e = .returned (.bool (hasB (lR la) (lF la) (lT la) rr qq la.length)) ∧ Below w'.heap.size w' w2) := hid (fun w' hb => specHas _ _ _ _ _ _ rr qq w' (by omega) (SAr.out.below hb))
          have HB : Hid (∀ w', Below wr.heap.size wr w' → Calls Tryz.prog 8 #[.agg #[.slice (some ⟨gb, fb, none⟩) lb.length cb], .agg #[.int .i64 rr, .int .i64 qq]] w' fun e w2 => e = .returned (.bool (hasB (lR lb) (lF lb) (lT lb) rr qq lb.length)) ∧ Below w'.heap.size w' w2) := hid (fun w' hb => specHas _ _ _ _ _ _ rr qq w' (by omega) (SBr.out.below hb))
          have IA : Hid (∀ w', Below wr.heap.size wr w' → Calls Tryz.prog 9 #[.agg #[.slice (some ⟨ga, fa, none⟩) la.length ca], .agg #[.int .i64 rr, .int .i64 qq]] w' fun e w2 => e = .returned (.bool (hasB (lR la) (lF la) (lT la) rr qq la.length)) ∧ Below w'.heap.size w' w2) := hid (fun w' hb => implHas _ _ _ _ _ _ rr qq w' (by omega) (SAr.out.below hb) hwf)
          have IB : Hid (∀ w', Below wr.heap.size wr w' → Calls Tryz.prog 9 #[.agg #[.slice (some ⟨gb, fb, none⟩) lb.length cb], .agg #[.int .i64 rr, .int .i64 qq]] w' fun e w2 => e = .returned (.bool (hasB (lR lb) (lF lb) (lT lb) rr qq lb.length)) ∧ Below w'.heap.size w' w2) := hid (fun w' hb => implHas _ _ _ _ _ _ rr qq w' (by omega) (SBr.out.below hb) hwf)
          have IC : Hid (∀ w', Below wr.heap.size wr w' → Calls Tryz.prog 9 #[.agg #[.slice ac uz.length cc], .agg #[.int .i64 rr, .int .i64 qq]] w' fun e w2 => e = .returned (.bool (hasB (lR uz) (lF uz) (lT uz) rr qq uz.length)) ∧ Below w'.heap.size w' w2) := hid (fun w' hb => implHas _ _ _ _ _ _ rr qq w' (by have := HCA.out.2.2; omega) (SCr.out.below hb) hwf)
          rw [HHAS.out rr qq] at IC
          obtain ⟨ha, hha⟩ : ∃ ha, hasB (lR la) (lF la) (lT la) rr qq la.length = ha := ⟨_, rfl⟩
          obtain ⟨hb, hhb⟩ : ∃ hb, hasB (lR lb) (lF lb) (lT lb) rr qq lb.length = hb := ⟨_, rfl⟩
          rw [hha] at HA IA IC
          rw [hhb] at HB IB IC
          have i1 : (0 : Int) ≤ (j : Int) := Int.natCast_nonneg _
          have i2 : (j : Int) < (ds.length : Int) := by omega
          clear hha hhb hrr hqq hwf SAr SBr SCr
          cases ha
          · cases hb
            · go_wp2_with fail
              refine wp_region_held_drew (S := fun w' => Below wr.heap.size wr w' ∧ w'.cell? ⟨w1.heap.size, 0, none⟩ = some (.slice (some ⟨ga, fa, none⟩) la.length ca) ∧ w'.cell? ⟨w1.heap.size + 1, 0, none⟩ = some (.slice (some ⟨gb, fb, none⟩) lb.length cb) ∧ w'.cell? ⟨gd, j * 2, none⟩ = some (.int .i64 rr) ∧ w'.cell? ⟨gd, j * 2 + 1, none⟩ = some (.int .i64 qq)) (by kernel_rfl) ⟨(Below.refl _ _).drew, kk3, kk4, xx0, xx1⟩ (fun hHeld => ?_)
              refine take1 (i := 0) (d := some 56) (v := ?_) (by kernel_rfl) (by kernel_rfl) (by kernel_rfl) (by kernel_rfl) (fun _ _ _ h => h) ?_ hHeld ?_
              rotate_left
              · (intro o ho; simp only [List.getElem?_toArray, List.getElem?_cons_succ, List.getElem?_cons_zero, Option.some.injEq] at ho; subst ho; refine Or.inl ⟨by rfl, ?_⟩; intro w hSw; (try dsimp only at hSw); go_simp; try with_reducible rfl)
              try simp only [Act.put, List.setIfInBounds_toArray, List.set_cons_zero, List.set_cons_succ]
              refine take1 (i := 1) (d := some 57) (v := ?_) (by kernel_rfl) (by kernel_rfl) (by kernel_rfl) (by kernel_rfl) (fun _ _ _ h => h) ?_ hHeld ?_
              rotate_left
              · (intro o ho; simp only [List.getElem?_toArray, List.getElem?_cons_succ, List.getElem?_cons_zero, Option.some.injEq] at ho; subst ho; refine Or.inl ⟨by rfl, ?_⟩; intro w hSw; (try dsimp only at hSw); go_simp; try with_reducible rfl)
              try simp only [Act.put, List.setIfInBounds_toArray, List.set_cons_zero, List.set_cons_succ]
              refine take1 (i := 2) (d := some 58) (v := ?_) (by kernel_rfl) (by kernel_rfl) (by kernel_rfl) (by kernel_rfl) (fun _ _ _ h => h) ?_ hHeld ?_
              rotate_left
              · (intro o ho; simp only [List.getElem?_toArray, List.getElem?_cons_succ, List.getElem?_cons_zero, Option.some.injEq] at ho; subst ho; refine Or.inl ⟨by rfl, ?_⟩; intro w hSw; (try dsimp only at hSw); go_simp; try with_reducible rfl)
              try simp only [Act.put, List.setIfInBounds_toArray, List.set_cons_zero, List.set_cons_succ]
              refine take1 (i := 3) (d := some 59) (v := ?_) (by kernel_rfl) (by kernel_rfl) (by kernel_rfl) (by kernel_rfl) (fun _ _ _ h => h) ?_ hHeld ?_
              rotate_left
              · (intro o ho; simp only [List.getElem?_toArray, List.getElem?_cons_succ, List.getElem?_cons_zero, Option.some.injEq] at ho; subst ho; refine Or.inl ⟨by rfl, ?_⟩; intro w hSw; (try dsimp only at hSw); go_simp; try with_reducible rfl)
              try simp only [Act.put, List.setIfInBounds_toArray, List.set_cons_zero, List.set_cons_succ]
              refine take1 (i := 4) (d := some 60) (v := ?_) (by kernel_rfl) (by kernel_rfl) (by kernel_rfl) (by kernel_rfl) (fun _ _ _ h => h) ?_ hHeld ?_
              rotate_left
              · (intro o ho; simp only [List.getElem?_toArray, List.getElem?_cons_succ, List.getElem?_cons_zero, Option.some.injEq] at ho; subst ho; refine Or.inl ⟨by rfl, ?_⟩; intro w hSw; (try dsimp only at hSw); go_simp; try with_reducible rfl)
              try simp only [Act.put, List.setIfInBounds_toArray, List.set_cons_zero, List.set_cons_succ]
              refine call1 (i := 5) (d := some 61) (by kernel_rfl) (by kernel_rfl) ?_
              intro o ho hod K hK; simp only [List.getElem?_toArray, List.getElem?_cons_succ, List.getElem?_cons_zero, Option.some.injEq] at ho; subst ho
              go_simp
              refine (HA.out _ hHeld.1).mono ?_
              rintro e x5 ⟨rfl, c5⟩
              have hB5 := keepS hHeld.1 c5
              refine hK.out _ _ ⟨hB5, (hB5.cell (p := ⟨w1.heap.size, _, none⟩) m3).trans kk3, (hB5.cell (p := ⟨w1.heap.size + 1, _, none⟩) m4).trans kk4, (hB5.cell (p := ⟨gd, _, none⟩) md).trans xx0, (hB5.cell (p := ⟨gd, _, none⟩) md).trans xx1⟩ (fun hHeld => ?_)
              clear hK K
              try simp only [Act.put, List.setIfInBounds_toArray, List.set_cons_zero, List.set_cons_succ]
              refine take1 (i := 6) (d := some 62) (v := ?_) (by kernel_rfl) (by kernel_rfl) (by kernel_rfl) (by kernel_rfl) (fun _ _ _ h => h) ?_ hHeld ?_
              rotate_left
              · (intro o ho; simp only [List.getElem?_toArray, List.getElem?_cons_succ, List.getElem?_cons_zero, Option.some.injEq] at ho; subst ho; refine Or.inl ⟨by rfl, ?_⟩; intro w hSw; (try dsimp only at hSw); go_simp; try with_reducible rfl)
              try simp only [Act.put, List.setIfInBounds_toArray, List.set_cons_zero, List.set_cons_succ]
              refine take1 (i := 7) (d := some 63) (v := ?_) (by kernel_rfl) (by kernel_rfl) (by kernel_rfl) (by kernel_rfl) (fun _ _ _ h => h) ?_ hHeld ?_
              rotate_left
              · (intro o ho; simp only [List.getElem?_toArray, List.getElem?_cons_succ, List.getElem?_cons_zero, Option.some.injEq] at ho; subst ho; refine Or.inl ⟨by rfl, ?_⟩; intro w hSw; (try dsimp only at hSw); go_simp; try with_reducible rfl)
              try simp only [Act.put, List.setIfInBounds_toArray, List.set_cons_zero, List.set_cons_succ]
              refine take1 (i := 8) (d := some 64) (v := ?_) (by kernel_rfl) (by kernel_rfl) (by kernel_rfl) (by kernel_rfl) (fun _ _ _ h => h) ?_ hHeld ?_
              rotate_left
              · (intro o ho; simp only [List.getElem?_toArray, List.getElem?_cons_succ, List.getElem?_cons_zero, Option.some.injEq] at ho; subst ho; refine Or.inl ⟨by rfl, ?_⟩; intro w hSw; (try dsimp only at hSw); go_simp; try with_reducible rfl)
              try simp only [Act.put, List.setIfInBounds_toArray, List.set_cons_zero, List.set_cons_succ]
              refine take1 (i := 9) (d := some 65) (v := ?_) (by kernel_rfl) (by kernel_rfl) (by kernel_rfl) (by kernel_rfl) (fun _ _ _ h => h) ?_ hHeld ?_
              rotate_left
              · (intro o ho; simp only [List.getElem?_toArray, List.getElem?_cons_succ, List.getElem?_cons_zero, Option.some.injEq] at ho; subst ho; refine Or.inl ⟨by rfl, ?_⟩; intro w hSw; (try dsimp only at hSw); go_simp; try with_reducible rfl)
              try simp only [Act.put, List.setIfInBounds_toArray, List.set_cons_zero, List.set_cons_succ]
              refine take1 (i := 10) (d := some 66) (v := ?_) (by kernel_rfl) (by kernel_rfl) (by kernel_rfl) (by kernel_rfl) (fun _ _ _ h => h) ?_ hHeld ?_
              rotate_left
              · (intro o ho; simp only [List.getElem?_toArray, List.getElem?_cons_succ, List.getElem?_cons_zero, Option.some.injEq] at ho; subst ho; refine Or.inl ⟨by rfl, ?_⟩; intro w hSw; (try dsimp only at hSw); go_simp; try with_reducible rfl)
              try simp only [Act.put, List.setIfInBounds_toArray, List.set_cons_zero, List.set_cons_succ]
              refine take1 (i := 11) (d := some 67) (v := ?_) (by kernel_rfl) (by kernel_rfl) (by kernel_rfl) (by kernel_rfl) (fun _ _ _ h => h) ?_ hHeld ?_
              rotate_left
              · (intro o ho; simp only [List.getElem?_toArray, List.getElem?_cons_succ, List.getElem?_cons_zero, Option.some.injEq] at ho; subst ho; refine Or.inl ⟨by rfl, ?_⟩; intro w hSw; (try dsimp only at hSw); go_simp; try with_reducible rfl)
              try simp only [Act.put, List.setIfInBounds_toArray, List.set_cons_zero, List.set_cons_succ]
              refine call1 (i := 12) (d := some 68) (by kernel_rfl) (by kernel_rfl) ?_
              intro o ho hod K hK; simp only [List.getElem?_toArray, List.getElem?_cons_succ, List.getElem?_cons_zero, Option.some.injEq] at ho; subst ho
              go_simp
              refine (HB.out _ hHeld.1).mono ?_
              rintro e x6 ⟨rfl, c6⟩
              have hB6 := keepS hHeld.1 c6
              refine hK.out _ _ ⟨hB6, (hB6.cell (p := ⟨w1.heap.size, _, none⟩) m3).trans kk3, (hB6.cell (p := ⟨w1.heap.size + 1, _, none⟩) m4).trans kk4, (hB6.cell (p := ⟨gd, _, none⟩) md).trans xx0, (hB6.cell (p := ⟨gd, _, none⟩) md).trans xx1⟩ (fun hHeld => ?_)
              clear hK K
              try simp only [Act.put, List.setIfInBounds_toArray, List.set_cons_zero, List.set_cons_succ]
              refine take1 (i := 13) (d := some 69) (v := ?_) (by kernel_rfl) (by kernel_rfl) (by kernel_rfl) (by kernel_rfl) (fun _ _ _ h => h) ?_ hHeld ?_
              rotate_left
              · (intro o ho; simp only [List.getElem?_toArray, List.getElem?_cons_succ, List.getElem?_cons_zero, Option.some.injEq] at ho; subst ho; refine Or.inl ⟨by rfl, ?_⟩; intro w hSw; (try dsimp only at hSw); go_simp; try with_reducible rfl)
              try simp only [Act.put, List.setIfInBounds_toArray, List.set_cons_zero, List.set_cons_succ]
              refine take1 (i := 14) (d := some 11) (v := ?_) (by kernel_rfl) (by kernel_rfl) (by kernel_rfl) (by kernel_rfl) (fun _ _ _ h => h) ?_ hHeld ?_
              rotate_left
              · (intro o ho; simp only [List.getElem?_toArray, List.getElem?_cons_succ, List.getElem?_cons_zero, Option.some.injEq] at ho; subst ho; refine Or.inl ⟨by rfl, ?_⟩; intro w hSw; (try dsimp only at hSw); go_simp; try with_reducible rfl)
              try simp only [Act.put, List.setIfInBounds_toArray, List.set_cons_zero, List.set_cons_succ]
              refine wpAnyH_done (by kernel_rfl) ?_ _
              have hP := hHeld.1
              clear hHeld hB5 c5 hB6 c6
              go_wp2_with fail
              refine wp_region_held_drew (S := fun w' => Below wr.heap.size wr w' ∧ w'.cell? ⟨w3.heap.size, 0, none⟩ = some (.slice ac uz.length cc) ∧ w'.cell? ⟨w1.heap.size, 0, none⟩ = some (.slice (some ⟨ga, fa, none⟩) la.length ca) ∧ w'.cell? ⟨w1.heap.size + 1, 0, none⟩ = some (.slice (some ⟨gb, fb, none⟩) lb.length cb) ∧ w'.cell? ⟨gd, j * 2, none⟩ = some (.int .i64 rr) ∧ w'.cell? ⟨gd, j * 2 + 1, none⟩ = some (.int .i64 qq)) (by kernel_rfl) ⟨hP.drew, (hP.cell (p := ⟨w3.heap.size, _, none⟩) m7).trans kk7, (hP.cell (p := ⟨w1.heap.size, _, none⟩) m3).trans kk3, (hP.cell (p := ⟨w1.heap.size + 1, _, none⟩) m4).trans kk4, (hP.cell (p := ⟨gd, _, none⟩) md).trans xx0, (hP.cell (p := ⟨gd, _, none⟩) md).trans xx1⟩ (fun hHeld => ?_)
              refine take1 (i := 0) (d := some 70) (v := ?_) (by kernel_rfl) (by kernel_rfl) (by kernel_rfl) (by kernel_rfl) (fun _ _ _ h => h) ?_ hHeld ?_
              rotate_left
              · (intro o ho; simp only [List.getElem?_toArray, List.getElem?_cons_succ, List.getElem?_cons_zero, Option.some.injEq] at ho; subst ho; refine Or.inl ⟨by rfl, ?_⟩; intro w hSw; (try dsimp only at hSw); go_simp; try with_reducible rfl)
              try simp only [Act.put, List.setIfInBounds_toArray, List.set_cons_zero, List.set_cons_succ]
              refine take1 (i := 1) (d := some 71) (v := ?_) (by kernel_rfl) (by kernel_rfl) (by kernel_rfl) (by kernel_rfl) (fun _ _ _ h => h) ?_ hHeld ?_
              rotate_left
              · (intro o ho; simp only [List.getElem?_toArray, List.getElem?_cons_succ, List.getElem?_cons_zero, Option.some.injEq] at ho; subst ho; refine Or.inl ⟨by rfl, ?_⟩; intro w hSw; (try dsimp only at hSw); go_simp; try with_reducible rfl)
              try simp only [Act.put, List.setIfInBounds_toArray, List.set_cons_zero, List.set_cons_succ]
              refine take1 (i := 2) (d := some 72) (v := ?_) (by kernel_rfl) (by kernel_rfl) (by kernel_rfl) (by kernel_rfl) (fun _ _ _ h => h) ?_ hHeld ?_
              rotate_left
              · (intro o ho; simp only [List.getElem?_toArray, List.getElem?_cons_succ, List.getElem?_cons_zero, Option.some.injEq] at ho; subst ho; refine Or.inl ⟨by rfl, ?_⟩; intro w hSw; (try dsimp only at hSw); go_simp; try with_reducible rfl)
              try simp only [Act.put, List.setIfInBounds_toArray, List.set_cons_zero, List.set_cons_succ]
              refine take1 (i := 3) (d := some 73) (v := ?_) (by kernel_rfl) (by kernel_rfl) (by kernel_rfl) (by kernel_rfl) (fun _ _ _ h => h) ?_ hHeld ?_
              rotate_left
              · (intro o ho; simp only [List.getElem?_toArray, List.getElem?_cons_succ, List.getElem?_cons_zero, Option.some.injEq] at ho; subst ho; refine Or.inl ⟨by rfl, ?_⟩; intro w hSw; (try dsimp only at hSw); go_simp; try with_reducible rfl)
              try simp only [Act.put, List.setIfInBounds_toArray, List.set_cons_zero, List.set_cons_succ]
              refine take1 (i := 4) (d := some 74) (v := ?_) (by kernel_rfl) (by kernel_rfl) (by kernel_rfl) (by kernel_rfl) (fun _ _ _ h => h) ?_ hHeld ?_
              rotate_left
              · (intro o ho; simp only [List.getElem?_toArray, List.getElem?_cons_succ, List.getElem?_cons_zero, Option.some.injEq] at ho; subst ho; refine Or.inl ⟨by rfl, ?_⟩; intro w hSw; (try dsimp only at hSw); go_simp; try with_reducible rfl)
              try simp only [Act.put, List.setIfInBounds_toArray, List.set_cons_zero, List.set_cons_succ]
              refine take1 (i := 6) (d := some 76) (v := ?_) (by kernel_rfl) (by kernel_rfl) (by kernel_rfl) (by kernel_rfl) (fun _ _ _ h => h) ?_ hHeld ?_
              rotate_left
              · (intro o ho; simp only [List.getElem?_toArray, List.getElem?_cons_succ, List.getElem?_cons_zero, Option.some.injEq] at ho; subst ho; refine Or.inl ⟨by rfl, ?_⟩; intro w hSw; (try dsimp only at hSw); go_simp; try with_reducible rfl)
              try simp only [Act.put, List.setIfInBounds_toArray, List.set_cons_zero, List.set_cons_succ]
              refine call1 (i := 5) (d := some 75) (by kernel_rfl) (by kernel_rfl) ?_
              intro o ho hod K hK; simp only [List.getElem?_toArray, List.getElem?_cons_succ, List.getElem?_cons_zero, Option.some.injEq] at ho; subst ho
              go_simp
              refine (IC.out _ hHeld.1).mono ?_
              rintro e x7 ⟨rfl, c7⟩
              have hB7 := keepS hHeld.1 c7
              refine hK.out _ _ ⟨hB7, (hB7.cell (p := ⟨w3.heap.size, _, none⟩) m7).trans kk7, (hB7.cell (p := ⟨w1.heap.size, _, none⟩) m3).trans kk3, (hB7.cell (p := ⟨w1.heap.size + 1, _, none⟩) m4).trans kk4, (hB7.cell (p := ⟨gd, _, none⟩) md).trans xx0, (hB7.cell (p := ⟨gd, _, none⟩) md).trans xx1⟩ (fun hHeld => ?_)
              clear hK K
              try simp only [Act.put, List.setIfInBounds_toArray, List.set_cons_zero, List.set_cons_succ]
              refine take1 (i := 7) (d := some 77) (v := ?_) (by kernel_rfl) (by kernel_rfl) (by kernel_rfl) (by kernel_rfl) (fun _ _ _ h => h) ?_ hHeld ?_
              rotate_left
              · (intro o ho; simp only [List.getElem?_toArray, List.getElem?_cons_succ, List.getElem?_cons_zero, Option.some.injEq] at ho; subst ho; refine Or.inl ⟨by rfl, ?_⟩; intro w hSw; (try dsimp only at hSw); go_simp; try with_reducible rfl)
              try simp only [Act.put, List.setIfInBounds_toArray, List.set_cons_zero, List.set_cons_succ]
              refine take1 (i := 8) (d := some 78) (v := ?_) (by kernel_rfl) (by kernel_rfl) (by kernel_rfl) (by kernel_rfl) (fun _ _ _ h => h) ?_ hHeld ?_
              rotate_left
              · (intro o ho; simp only [List.getElem?_toArray, List.getElem?_cons_succ, List.getElem?_cons_zero, Option.some.injEq] at ho; subst ho; refine Or.inl ⟨by rfl, ?_⟩; intro w hSw; (try dsimp only at hSw); go_simp; try with_reducible rfl)
              try simp only [Act.put, List.setIfInBounds_toArray, List.set_cons_zero, List.set_cons_succ]
              refine take1 (i := 9) (d := some 79) (v := ?_) (by kernel_rfl) (by kernel_rfl) (by kernel_rfl) (by kernel_rfl) (fun _ _ _ h => h) ?_ hHeld ?_
              rotate_left
              · (intro o ho; simp only [List.getElem?_toArray, List.getElem?_cons_succ, List.getElem?_cons_zero, Option.some.injEq] at ho; subst ho; refine Or.inl ⟨by rfl, ?_⟩; intro w hSw; (try dsimp only at hSw); go_simp; try with_reducible rfl)
              try simp only [Act.put, List.setIfInBounds_toArray, List.set_cons_zero, List.set_cons_succ]
              refine take1 (i := 10) (d := some 80) (v := ?_) (by kernel_rfl) (by kernel_rfl) (by kernel_rfl) (by kernel_rfl) (fun _ _ _ h => h) ?_ hHeld ?_
              rotate_left
              · (intro o ho; simp only [List.getElem?_toArray, List.getElem?_cons_succ, List.getElem?_cons_zero, Option.some.injEq] at ho; subst ho; refine Or.inl ⟨by rfl, ?_⟩; intro w hSw; (try dsimp only at hSw); go_simp; try with_reducible rfl)
              try simp only [Act.put, List.setIfInBounds_toArray, List.set_cons_zero, List.set_cons_succ]
              refine take1 (i := 11) (d := some 81) (v := ?_) (by kernel_rfl) (by kernel_rfl) (by kernel_rfl) (by kernel_rfl) (fun _ _ _ h => h) ?_ hHeld ?_
              rotate_left
              · (intro o ho; simp only [List.getElem?_toArray, List.getElem?_cons_succ, List.getElem?_cons_zero, Option.some.injEq] at ho; subst ho; refine Or.inl ⟨by rfl, ?_⟩; intro w hSw; (try dsimp only at hSw); go_simp; try with_reducible rfl)
              try simp only [Act.put, List.setIfInBounds_toArray, List.set_cons_zero, List.set_cons_succ]
              refine take1 (i := 12) (d := some 82) (v := ?_) (by kernel_rfl) (by kernel_rfl) (by kernel_rfl) (by kernel_rfl) (fun _ _ _ h => h) ?_ hHeld ?_
              rotate_left
              · (intro o ho; simp only [List.getElem?_toArray, List.getElem?_cons_succ, List.getElem?_cons_zero, Option.some.injEq] at ho; subst ho; refine Or.inl ⟨by rfl, ?_⟩; intro w hSw; (try dsimp only at hSw); go_simp; try with_reducible rfl)
              try simp only [Act.put, List.setIfInBounds_toArray, List.set_cons_zero, List.set_cons_succ]
              refine take1 (i := 13) (d := some 83) (v := ?_) (by kernel_rfl) (by kernel_rfl) (by kernel_rfl) (by kernel_rfl) (fun _ _ _ h => h) ?_ hHeld ?_
              rotate_left
              · (intro o ho; simp only [List.getElem?_toArray, List.getElem?_cons_succ, List.getElem?_cons_zero, Option.some.injEq] at ho; subst ho; refine Or.inl ⟨by rfl, ?_⟩; intro w hSw; (try dsimp only at hSw); go_simp; try with_reducible rfl)
              try simp only [Act.put, List.setIfInBounds_toArray, List.set_cons_zero, List.set_cons_succ]
              refine take1 (i := 23) (d := some 93) (v := ?_) (by kernel_rfl) (by kernel_rfl) (by kernel_rfl) (by kernel_rfl) (fun _ _ _ h => h) ?_ hHeld ?_
              rotate_left
              · (intro o ho; simp only [List.getElem?_toArray, List.getElem?_cons_succ, List.getElem?_cons_zero, Option.some.injEq] at ho; subst ho; refine Or.inl ⟨by rfl, ?_⟩; intro w hSw; (try dsimp only at hSw); go_simp; try with_reducible rfl)
              try simp only [Act.put, List.setIfInBounds_toArray, List.set_cons_zero, List.set_cons_succ]
              refine call1 (i := 14) (d := some 84) (by kernel_rfl) (by kernel_rfl) ?_
              intro o ho hod K hK; simp only [List.getElem?_toArray, List.getElem?_cons_succ, List.getElem?_cons_zero, Option.some.injEq] at ho; subst ho
              go_simp
              refine (IA.out _ hHeld.1).mono ?_
              rintro e x8 ⟨rfl, c8⟩
              have hB8 := keepS hHeld.1 c8
              refine hK.out _ _ ⟨hB8, (hB8.cell (p := ⟨w3.heap.size, _, none⟩) m7).trans kk7, (hB8.cell (p := ⟨w1.heap.size, _, none⟩) m3).trans kk3, (hB8.cell (p := ⟨w1.heap.size + 1, _, none⟩) m4).trans kk4, (hB8.cell (p := ⟨gd, _, none⟩) md).trans xx0, (hB8.cell (p := ⟨gd, _, none⟩) md).trans xx1⟩ (fun hHeld => ?_)
              clear hK K
              try simp only [Act.put, List.setIfInBounds_toArray, List.set_cons_zero, List.set_cons_succ]
              refine take1 (i := 15) (d := some 85) (v := ?_) (by kernel_rfl) (by kernel_rfl) (by kernel_rfl) (by kernel_rfl) (fun _ _ _ h => h) ?_ hHeld ?_
              rotate_left
              · (intro o ho; simp only [List.getElem?_toArray, List.getElem?_cons_succ, List.getElem?_cons_zero, Option.some.injEq] at ho; subst ho; refine Or.inl ⟨by rfl, ?_⟩; intro w hSw; (try dsimp only at hSw); go_simp; try with_reducible rfl)
              try simp only [Act.put, List.setIfInBounds_toArray, List.set_cons_zero, List.set_cons_succ]
              refine take1 (i := 16) (d := some 86) (v := ?_) (by kernel_rfl) (by kernel_rfl) (by kernel_rfl) (by kernel_rfl) (fun _ _ _ h => h) ?_ hHeld ?_
              rotate_left
              · (intro o ho; simp only [List.getElem?_toArray, List.getElem?_cons_succ, List.getElem?_cons_zero, Option.some.injEq] at ho; subst ho; refine Or.inl ⟨by rfl, ?_⟩; intro w hSw; (try dsimp only at hSw); go_simp; try with_reducible rfl)
              try simp only [Act.put, List.setIfInBounds_toArray, List.set_cons_zero, List.set_cons_succ]
              refine take1 (i := 17) (d := some 87) (v := ?_) (by kernel_rfl) (by kernel_rfl) (by kernel_rfl) (by kernel_rfl) (fun _ _ _ h => h) ?_ hHeld ?_
              rotate_left
              · (intro o ho; simp only [List.getElem?_toArray, List.getElem?_cons_succ, List.getElem?_cons_zero, Option.some.injEq] at ho; subst ho; refine Or.inl ⟨by rfl, ?_⟩; intro w hSw; (try dsimp only at hSw); go_simp; try with_reducible rfl)
              try simp only [Act.put, List.setIfInBounds_toArray, List.set_cons_zero, List.set_cons_succ]
              refine take1 (i := 18) (d := some 88) (v := ?_) (by kernel_rfl) (by kernel_rfl) (by kernel_rfl) (by kernel_rfl) (fun _ _ _ h => h) ?_ hHeld ?_
              rotate_left
              · (intro o ho; simp only [List.getElem?_toArray, List.getElem?_cons_succ, List.getElem?_cons_zero, Option.some.injEq] at ho; subst ho; refine Or.inl ⟨by rfl, ?_⟩; intro w hSw; (try dsimp only at hSw); go_simp; try with_reducible rfl)
              try simp only [Act.put, List.setIfInBounds_toArray, List.set_cons_zero, List.set_cons_succ]
              refine take1 (i := 19) (d := some 89) (v := ?_) (by kernel_rfl) (by kernel_rfl) (by kernel_rfl) (by kernel_rfl) (fun _ _ _ h => h) ?_ hHeld ?_
              rotate_left
              · (intro o ho; simp only [List.getElem?_toArray, List.getElem?_cons_succ, List.getElem?_cons_zero, Option.some.injEq] at ho; subst ho; refine Or.inl ⟨by rfl, ?_⟩; intro w hSw; (try dsimp only at hSw); go_simp; try with_reducible rfl)
              try simp only [Act.put, List.setIfInBounds_toArray, List.set_cons_zero, List.set_cons_succ]
              refine take1 (i := 20) (d := some 90) (v := ?_) (by kernel_rfl) (by kernel_rfl) (by kernel_rfl) (by kernel_rfl) (fun _ _ _ h => h) ?_ hHeld ?_
              rotate_left
              · (intro o ho; simp only [List.getElem?_toArray, List.getElem?_cons_succ, List.getElem?_cons_zero, Option.some.injEq] at ho; subst ho; refine Or.inl ⟨by rfl, ?_⟩; intro w hSw; (try dsimp only at hSw); go_simp; try with_reducible rfl)
              try simp only [Act.put, List.setIfInBounds_toArray, List.set_cons_zero, List.set_cons_succ]
              refine call1 (i := 21) (d := some 91) (by kernel_rfl) (by kernel_rfl) ?_
              intro o ho hod K hK; simp only [List.getElem?_toArray, List.getElem?_cons_succ, List.getElem?_cons_zero, Option.some.injEq] at ho; subst ho
              go_simp
              refine (IB.out _ hHeld.1).mono ?_
              rintro e x9 ⟨rfl, c9⟩
              have hB9 := keepS hHeld.1 c9
              refine hK.out _ _ ⟨hB9, (hB9.cell (p := ⟨w3.heap.size, _, none⟩) m7).trans kk7, (hB9.cell (p := ⟨w1.heap.size, _, none⟩) m3).trans kk3, (hB9.cell (p := ⟨w1.heap.size + 1, _, none⟩) m4).trans kk4, (hB9.cell (p := ⟨gd, _, none⟩) md).trans xx0, (hB9.cell (p := ⟨gd, _, none⟩) md).trans xx1⟩ (fun hHeld => ?_)
              clear hK K
              try simp only [Act.put, List.setIfInBounds_toArray, List.set_cons_zero, List.set_cons_succ]
              refine take1 (i := 22) (d := some 92) (v := ?_) (by kernel_rfl) (by kernel_rfl) (by kernel_rfl) (by kernel_rfl) (fun _ _ _ h => h) ?_ hHeld ?_
              rotate_left
              · (intro o ho; simp only [List.getElem?_toArray, List.getElem?_cons_succ, List.getElem?_cons_zero, Option.some.injEq] at ho; subst ho; refine Or.inl ⟨by rfl, ?_⟩; intro w hSw; (try dsimp only at hSw); go_simp; try with_reducible rfl)
              try simp only [Act.put, List.setIfInBounds_toArray, List.set_cons_zero, List.set_cons_succ]
              refine take1 (i := 24) (d := some 94) (v := ?_) (by kernel_rfl) (by kernel_rfl) (by kernel_rfl) (by kernel_rfl) (fun _ _ _ h => h) ?_ hHeld ?_
              rotate_left
              · (intro o ho; simp only [List.getElem?_toArray, List.getElem?_cons_succ, List.getElem?_cons_zero, Option.some.injEq] at ho; subst ho; refine Or.inl ⟨by rfl, ?_⟩; intro w hSw; (try dsimp only at hSw); go_simp; try with_reducible rfl)
              try simp only [Act.put, List.setIfInBounds_toArray, List.set_cons_zero, List.set_cons_succ]
              refine take1 (i := 25) (d := some 95) (v := ?_) (by kernel_rfl) (by kernel_rfl) (by kernel_rfl) (by kernel_rfl) (fun _ _ _ h => h) ?_ hHeld ?_
              rotate_left
              · (intro o ho; simp only [List.getElem?_toArray, List.getElem?_cons_succ, List.getElem?_cons_zero, Option.some.injEq] at ho; subst ho; refine Or.inl ⟨by rfl, ?_⟩; intro w hSw; (try dsimp only at hSw); go_simp; try with_reducible rfl)
              try simp only [Act.put, List.setIfInBounds_toArray, List.set_cons_zero, List.set_cons_succ]
              refine wpAnyH_done (by kernel_rfl) ?_ _
              have HN := hid (hbl.out.trans (hHeld.1.mono hbl.out.size))
              clear hHeld hB7 c7 hB8 c8 hB9 c9 hP
              go_wp2_with fail
              go_roundw
              case rel => exact ⟨j + 1, hlt, by go_num, HN⟩
              case measure => simp [intOf]; omega
            · go_wp2_with fail
              refine wp_region_held_drew (S := fun w' => Below wr.heap.size wr w' ∧ w'.cell? ⟨w1.heap.size, 0, none⟩ = some (.slice (some ⟨ga, fa, none⟩) la.length ca) ∧ w'.cell? ⟨w1.heap.size + 1, 0, none⟩ = some (.slice (some ⟨gb, fb, none⟩) lb.length cb) ∧ w'.cell? ⟨gd, j * 2, none⟩ = some (.int .i64 rr) ∧ w'.cell? ⟨gd, j * 2 + 1, none⟩ = some (.int .i64 qq)) (by kernel_rfl) ⟨(Below.refl _ _).drew, kk3, kk4, xx0, xx1⟩ (fun hHeld => ?_)
              refine take1 (i := 0) (d := some 56) (v := ?_) (by kernel_rfl) (by kernel_rfl) (by kernel_rfl) (by kernel_rfl) (fun _ _ _ h => h) ?_ hHeld ?_
              rotate_left
              · (intro o ho; simp only [List.getElem?_toArray, List.getElem?_cons_succ, List.getElem?_cons_zero, Option.some.injEq] at ho; subst ho; refine Or.inl ⟨by rfl, ?_⟩; intro w hSw; (try dsimp only at hSw); go_simp; try with_reducible rfl)
              try simp only [Act.put, List.setIfInBounds_toArray, List.set_cons_zero, List.set_cons_succ]
              refine take1 (i := 1) (d := some 57) (v := ?_) (by kernel_rfl) (by kernel_rfl) (by kernel_rfl) (by kernel_rfl) (fun _ _ _ h => h) ?_ hHeld ?_
              rotate_left
              · (intro o ho; simp only [List.getElem?_toArray, List.getElem?_cons_succ, List.getElem?_cons_zero, Option.some.injEq] at ho; subst ho; refine Or.inl ⟨by rfl, ?_⟩; intro w hSw; (try dsimp only at hSw); go_simp; try with_reducible rfl)
              try simp only [Act.put, List.setIfInBounds_toArray, List.set_cons_zero, List.set_cons_succ]
              refine take1 (i := 2) (d := some 58) (v := ?_) (by kernel_rfl) (by kernel_rfl) (by kernel_rfl) (by kernel_rfl) (fun _ _ _ h => h) ?_ hHeld ?_
              rotate_left
              · (intro o ho; simp only [List.getElem?_toArray, List.getElem?_cons_succ, List.getElem?_cons_zero, Option.some.injEq] at ho; subst ho; refine Or.inl ⟨by rfl, ?_⟩; intro w hSw; (try dsimp only at hSw); go_simp; try with_reducible rfl)
              try simp only [Act.put, List.setIfInBounds_toArray, List.set_cons_zero, List.set_cons_succ]
              refine take1 (i := 3) (d := some 59) (v := ?_) (by kernel_rfl) (by kernel_rfl) (by kernel_rfl) (by kernel_rfl) (fun _ _ _ h => h) ?_ hHeld ?_
              rotate_left
              · (intro o ho; simp only [List.getElem?_toArray, List.getElem?_cons_succ, List.getElem?_cons_zero, Option.some.injEq] at ho; subst ho; refine Or.inl ⟨by rfl, ?_⟩; intro w hSw; (try dsimp only at hSw); go_simp; try with_reducible rfl)
              try simp only [Act.put, List.setIfInBounds_toArray, List.set_cons_zero, List.set_cons_succ]
              refine take1 (i := 4) (d := some 60) (v := ?_) (by kernel_rfl) (by kernel_rfl) (by kernel_rfl) (by kernel_rfl) (fun _ _ _ h => h) ?_ hHeld ?_
              rotate_left
              · (intro o ho; simp only [List.getElem?_toArray, List.getElem?_cons_succ, List.getElem?_cons_zero, Option.some.injEq] at ho; subst ho; refine Or.inl ⟨by rfl, ?_⟩; intro w hSw; (try dsimp only at hSw); go_simp; try with_reducible rfl)
              try simp only [Act.put, List.setIfInBounds_toArray, List.set_cons_zero, List.set_cons_succ]
              refine call1 (i := 5) (d := some 61) (by kernel_rfl) (by kernel_rfl) ?_
              intro o ho hod K hK; simp only [List.getElem?_toArray, List.getElem?_cons_succ, List.getElem?_cons_zero, Option.some.injEq] at ho; subst ho
              go_simp
              refine (HA.out _ hHeld.1).mono ?_
              rintro e x5 ⟨rfl, c5⟩
              have hB5 := keepS hHeld.1 c5
              refine hK.out _ _ ⟨hB5, (hB5.cell (p := ⟨w1.heap.size, _, none⟩) m3).trans kk3, (hB5.cell (p := ⟨w1.heap.size + 1, _, none⟩) m4).trans kk4, (hB5.cell (p := ⟨gd, _, none⟩) md).trans xx0, (hB5.cell (p := ⟨gd, _, none⟩) md).trans xx1⟩ (fun hHeld => ?_)
              clear hK K
              try simp only [Act.put, List.setIfInBounds_toArray, List.set_cons_zero, List.set_cons_succ]
              refine take1 (i := 6) (d := some 62) (v := ?_) (by kernel_rfl) (by kernel_rfl) (by kernel_rfl) (by kernel_rfl) (fun _ _ _ h => h) ?_ hHeld ?_
              rotate_left
              · (intro o ho; simp only [List.getElem?_toArray, List.getElem?_cons_succ, List.getElem?_cons_zero, Option.some.injEq] at ho; subst ho; refine Or.inl ⟨by rfl, ?_⟩; intro w hSw; (try dsimp only at hSw); go_simp; try with_reducible rfl)
              try simp only [Act.put, List.setIfInBounds_toArray, List.set_cons_zero, List.set_cons_succ]
              refine take1 (i := 7) (d := some 63) (v := ?_) (by kernel_rfl) (by kernel_rfl) (by kernel_rfl) (by kernel_rfl) (fun _ _ _ h => h) ?_ hHeld ?_
              rotate_left
              · (intro o ho; simp only [List.getElem?_toArray, List.getElem?_cons_succ, List.getElem?_cons_zero, Option.some.injEq] at ho; subst ho; refine Or.inl ⟨by rfl, ?_⟩; intro w hSw; (try dsimp only at hSw); go_simp; try with_reducible rfl)
              try simp only [Act.put, List.setIfInBounds_toArray, List.set_cons_zero, List.set_cons_succ]
              refine take1 (i := 8) (d := some 64) (v := ?_) (by kernel_rfl) (by kernel_rfl) (by kernel_rfl) (by kernel_rfl) (fun _ _ _ h => h) ?_ hHeld ?_
              rotate_left
              · (intro o ho; simp only [List.getElem?_toArray, List.getElem?_cons_succ, List.getElem?_cons_zero, Option.some.injEq] at ho; subst ho; refine Or.inl ⟨by rfl, ?_⟩; intro w hSw; (try dsimp only at hSw); go_simp; try with_reducible rfl)
              try simp only [Act.put, List.setIfInBounds_toArray, List.set_cons_zero, List.set_cons_succ]
              refine take1 (i := 9) (d := some 65) (v := ?_) (by kernel_rfl) (by kernel_rfl) (by kernel_rfl) (by kernel_rfl) (fun _ _ _ h => h) ?_ hHeld ?_
              rotate_left
              · (intro o ho; simp only [List.getElem?_toArray, List.getElem?_cons_succ, List.getElem?_cons_zero, Option.some.injEq] at ho; subst ho; refine Or.inl ⟨by rfl, ?_⟩; intro w hSw; (try dsimp only at hSw); go_simp; try with_reducible rfl)
              try simp only [Act.put, List.setIfInBounds_toArray, List.set_cons_zero, List.set_cons_succ]
              refine take1 (i := 10) (d := some 66) (v := ?_) (by kernel_rfl) (by kernel_rfl) (by kernel_rfl) (by kernel_rfl) (fun _ _ _ h => h) ?_ hHeld ?_
              rotate_left
              · (intro o ho; simp only [List.getElem?_toArray, List.getElem?_cons_succ, List.getElem?_cons_zero, Option.some.injEq] at ho; subst ho; refine Or.inl ⟨by rfl, ?_⟩; intro w hSw; (try dsimp only at hSw); go_simp; try with_reducible rfl)
              try simp only [Act.put, List.setIfInBounds_toArray, List.set_cons_zero, List.set_cons_succ]
              refine take1 (i := 11) (d := some 67) (v := ?_) (by kernel_rfl) (by kernel_rfl) (by kernel_rfl) (by kernel_rfl) (fun _ _ _ h => h) ?_ hHeld ?_
              rotate_left
              · (intro o ho; simp only [List.getElem?_toArray, List.getElem?_cons_succ, List.getElem?_cons_zero, Option.some.injEq] at ho; subst ho; refine Or.inl ⟨by rfl, ?_⟩; intro w hSw; (try dsimp only at hSw); go_simp; try with_reducible rfl)
              try simp only [Act.put, List.setIfInBounds_toArray, List.set_cons_zero, List.set_cons_succ]
              refine call1 (i := 12) (d := some 68) (by kernel_rfl) (by kernel_rfl) ?_
              intro o ho hod K hK; simp only [List.getElem?_toArray, List.getElem?_cons_succ, List.getElem?_cons_zero, Option.some.injEq] at ho; subst ho
              go_simp
              refine (HB.out _ hHeld.1).mono ?_
              rintro e x6 ⟨rfl, c6⟩
              have hB6 := keepS hHeld.1 c6
              refine hK.out _ _ ⟨hB6, (hB6.cell (p := ⟨w1.heap.size, _, none⟩) m3).trans kk3, (hB6.cell (p := ⟨w1.heap.size + 1, _, none⟩) m4).trans kk4, (hB6.cell (p := ⟨gd, _, none⟩) md).trans xx0, (hB6.cell (p := ⟨gd, _, none⟩) md).trans xx1⟩ (fun hHeld => ?_)
              clear hK K
              try simp only [Act.put, List.setIfInBounds_toArray, List.set_cons_zero, List.set_cons_succ]
              refine take1 (i := 13) (d := some 69) (v := ?_) (by kernel_rfl) (by kernel_rfl) (by kernel_rfl) (by kernel_rfl) (fun _ _ _ h => h) ?_ hHeld ?_
              rotate_left
              · (intro o ho; simp only [List.getElem?_toArray, List.getElem?_cons_succ, List.getElem?_cons_zero, Option.some.injEq] at ho; subst ho; refine Or.inl ⟨by rfl, ?_⟩; intro w hSw; (try dsimp only at hSw); go_simp; try with_reducible rfl)
              try simp only [Act.put, List.setIfInBounds_toArray, List.set_cons_zero, List.set_cons_succ]
              refine take1 (i := 14) (d := some 11) (v := ?_) (by kernel_rfl) (by kernel_rfl) (by kernel_rfl) (by kernel_rfl) (fun _ _ _ h => h) ?_ hHeld ?_
              rotate_left
              · (intro o ho; simp only [List.getElem?_toArray, List.getElem?_cons_succ, List.getElem?_cons_zero, Option.some.injEq] at ho; subst ho; refine Or.inl ⟨by rfl, ?_⟩; intro w hSw; (try dsimp only at hSw); go_simp; try with_reducible rfl)
              try simp only [Act.put, List.setIfInBounds_toArray, List.set_cons_zero, List.set_cons_succ]
              refine wpAnyH_done (by kernel_rfl) ?_ _
              have hP := hHeld.1
              clear hHeld hB5 c5 hB6 c6
              go_wp2_with fail
              refine wp_region_held_drew (S := fun w' => Below wr.heap.size wr w' ∧ w'.cell? ⟨w3.heap.size, 0, none⟩ = some (.slice ac uz.length cc) ∧ w'.cell? ⟨w1.heap.size, 0, none⟩ = some (.slice (some ⟨ga, fa, none⟩) la.length ca) ∧ w'.cell? ⟨w1.heap.size + 1, 0, none⟩ = some (.slice (some ⟨gb, fb, none⟩) lb.length cb) ∧ w'.cell? ⟨gd, j * 2, none⟩ = some (.int .i64 rr) ∧ w'.cell? ⟨gd, j * 2 + 1, none⟩ = some (.int .i64 qq)) (by kernel_rfl) ⟨hP.drew, (hP.cell (p := ⟨w3.heap.size, _, none⟩) m7).trans kk7, (hP.cell (p := ⟨w1.heap.size, _, none⟩) m3).trans kk3, (hP.cell (p := ⟨w1.heap.size + 1, _, none⟩) m4).trans kk4, (hP.cell (p := ⟨gd, _, none⟩) md).trans xx0, (hP.cell (p := ⟨gd, _, none⟩) md).trans xx1⟩ (fun hHeld => ?_)
              refine take1 (i := 0) (d := some 70) (v := ?_) (by kernel_rfl) (by kernel_rfl) (by kernel_rfl) (by kernel_rfl) (fun _ _ _ h => h) ?_ hHeld ?_
              rotate_left
              · (intro o ho; simp only [List.getElem?_toArray, List.getElem?_cons_succ, List.getElem?_cons_zero, Option.some.injEq] at ho; subst ho; refine Or.inl ⟨by rfl, ?_⟩; intro w hSw; (try dsimp only at hSw); go_simp; try with_reducible rfl)
              try simp only [Act.put, List.setIfInBounds_toArray, List.set_cons_zero, List.set_cons_succ]
              refine take1 (i := 1) (d := some 71) (v := ?_) (by kernel_rfl) (by kernel_rfl) (by kernel_rfl) (by kernel_rfl) (fun _ _ _ h => h) ?_ hHeld ?_
              rotate_left
              · (intro o ho; simp only [List.getElem?_toArray, List.getElem?_cons_succ, List.getElem?_cons_zero, Option.some.injEq] at ho; subst ho; refine Or.inl ⟨by rfl, ?_⟩; intro w hSw; (try dsimp only at hSw); go_simp; try with_reducible rfl)
              try simp only [Act.put, List.setIfInBounds_toArray, List.set_cons_zero, List.set_cons_succ]
              refine take1 (i := 2) (d := some 72) (v := ?_) (by kernel_rfl) (by kernel_rfl) (by kernel_rfl) (by kernel_rfl) (fun _ _ _ h => h) ?_ hHeld ?_
              rotate_left
              · (intro o ho; simp only [List.getElem?_toArray, List.getElem?_cons_succ, List.getElem?_cons_zero, Option.some.injEq] at ho; subst ho; refine Or.inl ⟨by rfl, ?_⟩; intro w hSw; (try dsimp only at hSw); go_simp; try with_reducible rfl)
              try simp only [Act.put, List.setIfInBounds_toArray, List.set_cons_zero, List.set_cons_succ]
              refine take1 (i := 3) (d := some 73) (v := ?_) (by kernel_rfl) (by kernel_rfl) (by kernel_rfl) (by kernel_rfl) (fun _ _ _ h => h) ?_ hHeld ?_
              rotate_left
              · (intro o ho; simp only [List.getElem?_toArray, List.getElem?_cons_succ, List.getElem?_cons_zero, Option.some.injEq] at ho; subst ho; refine Or.inl ⟨by rfl, ?_⟩; intro w hSw; (try dsimp only at hSw); go_simp; try with_reducible rfl)
              try simp only [Act.put, List.setIfInBounds_toArray, List.set_cons_zero, List.set_cons_succ]
              refine take1 (i := 4) (d := some 74) (v := ?_) (by kernel_rfl) (by kernel_rfl) (by kernel_rfl) (by kernel_rfl) (fun _ _ _ h => h) ?_ hHeld ?_
              rotate_left
              · (intro o ho; simp only [List.getElem?_toArray, List.getElem?_cons_succ, List.getElem?_cons_zero, Option.some.injEq] at ho; subst ho; refine Or.inl ⟨by rfl, ?_⟩; intro w hSw; (try dsimp only at hSw); go_simp; try with_reducible rfl)
              try simp only [Act.put, List.setIfInBounds_toArray, List.set_cons_zero, List.set_cons_succ]
              refine take1 (i := 6) (d := some 76) (v := ?_) (by kernel_rfl) (by kernel_rfl) (by kernel_rfl) (by kernel_rfl) (fun _ _ _ h => h) ?_ hHeld ?_
              rotate_left
              · (intro o ho; simp only [List.getElem?_toArray, List.getElem?_cons_succ, List.getElem?_cons_zero, Option.some.injEq] at ho; subst ho; refine Or.inl ⟨by rfl, ?_⟩; intro w hSw; (try dsimp only at hSw); go_simp; try with_reducible rfl)
              try simp only [Act.put, List.setIfInBounds_toArray, List.set_cons_zero, List.set_cons_succ]
              refine call1 (i := 5) (d := some 75) (by kernel_rfl) (by kernel_rfl) ?_
              intro o ho hod K hK; simp only [List.getElem?_toArray, List.getElem?_cons_succ, List.getElem?_cons_zero, Option.some.injEq] at ho; subst ho
              go_simp
              refine (IC.out _ hHeld.1).mono ?_
              rintro e x7 ⟨rfl, c7⟩
              have hB7 := keepS hHeld.1 c7
              refine hK.out _ _ ⟨hB7, (hB7.cell (p := ⟨w3.heap.size, _, none⟩) m7).trans kk7, (hB7.cell (p := ⟨w1.heap.size, _, none⟩) m3).trans kk3, (hB7.cell (p := ⟨w1.heap.size + 1, _, none⟩) m4).trans kk4, (hB7.cell (p := ⟨gd, _, none⟩) md).trans xx0, (hB7.cell (p := ⟨gd, _, none⟩) md).trans xx1⟩ (fun hHeld => ?_)
              clear hK K
              try simp only [Act.put, List.setIfInBounds_toArray, List.set_cons_zero, List.set_cons_succ]
              refine take1 (i := 7) (d := some 77) (v := ?_) (by kernel_rfl) (by kernel_rfl) (by kernel_rfl) (by kernel_rfl) (fun _ _ _ h => h) ?_ hHeld ?_
              rotate_left
              · (intro o ho; simp only [List.getElem?_toArray, List.getElem?_cons_succ, List.getElem?_cons_zero, Option.some.injEq] at ho; subst ho; refine Or.inl ⟨by rfl, ?_⟩; intro w hSw; (try dsimp only at hSw); go_simp; try with_reducible rfl)
              try simp only [Act.put, List.setIfInBounds_toArray, List.set_cons_zero, List.set_cons_succ]
              refine take1 (i := 8) (d := some 78) (v := ?_) (by kernel_rfl) (by kernel_rfl) (by kernel_rfl) (by kernel_rfl) (fun _ _ _ h => h) ?_ hHeld ?_
              rotate_left
              · (intro o ho; simp only [List.getElem?_toArray, List.getElem?_cons_succ, List.getElem?_cons_zero, Option.some.injEq] at ho; subst ho; refine Or.inl ⟨by rfl, ?_⟩; intro w hSw; (try dsimp only at hSw); go_simp; try with_reducible rfl)
              try simp only [Act.put, List.setIfInBounds_toArray, List.set_cons_zero, List.set_cons_succ]
              refine take1 (i := 9) (d := some 79) (v := ?_) (by kernel_rfl) (by kernel_rfl) (by kernel_rfl) (by kernel_rfl) (fun _ _ _ h => h) ?_ hHeld ?_
              rotate_left
              · (intro o ho; simp only [List.getElem?_toArray, List.getElem?_cons_succ, List.getElem?_cons_zero, Option.some.injEq] at ho; subst ho; refine Or.inl ⟨by rfl, ?_⟩; intro w hSw; (try dsimp only at hSw); go_simp; try with_reducible rfl)
              try simp only [Act.put, List.setIfInBounds_toArray, List.set_cons_zero, List.set_cons_succ]
              refine take1 (i := 10) (d := some 80) (v := ?_) (by kernel_rfl) (by kernel_rfl) (by kernel_rfl) (by kernel_rfl) (fun _ _ _ h => h) ?_ hHeld ?_
              rotate_left
              · (intro o ho; simp only [List.getElem?_toArray, List.getElem?_cons_succ, List.getElem?_cons_zero, Option.some.injEq] at ho; subst ho; refine Or.inl ⟨by rfl, ?_⟩; intro w hSw; (try dsimp only at hSw); go_simp; try with_reducible rfl)
              try simp only [Act.put, List.setIfInBounds_toArray, List.set_cons_zero, List.set_cons_succ]
              refine take1 (i := 11) (d := some 81) (v := ?_) (by kernel_rfl) (by kernel_rfl) (by kernel_rfl) (by kernel_rfl) (fun _ _ _ h => h) ?_ hHeld ?_
              rotate_left
              · (intro o ho; simp only [List.getElem?_toArray, List.getElem?_cons_succ, List.getElem?_cons_zero, Option.some.injEq] at ho; subst ho; refine Or.inl ⟨by rfl, ?_⟩; intro w hSw; (try dsimp only at hSw); go_simp; try with_reducible rfl)
              try simp only [Act.put, List.setIfInBounds_toArray, List.set_cons_zero, List.set_cons_succ]
              refine take1 (i := 12) (d := some 82) (v := ?_) (by kernel_rfl) (by kernel_rfl) (by kernel_rfl) (by kernel_rfl) (fun _ _ _ h => h) ?_ hHeld ?_
              rotate_left
              · (intro o ho; simp only [List.getElem?_toArray, List.getElem?_cons_succ, List.getElem?_cons_zero, Option.some.injEq] at ho; subst ho; refine Or.inl ⟨by rfl, ?_⟩; intro w hSw; (try dsimp only at hSw); go_simp; try with_reducible rfl)
              try simp only [Act.put, List.setIfInBounds_toArray, List.set_cons_zero, List.set_cons_succ]
              refine take1 (i := 13) (d := some 83) (v := ?_) (by kernel_rfl) (by kernel_rfl) (by kernel_rfl) (by kernel_rfl) (fun _ _ _ h => h) ?_ hHeld ?_
              rotate_left
              · (intro o ho; simp only [List.getElem?_toArray, List.getElem?_cons_succ, List.getElem?_cons_zero, Option.some.injEq] at ho; subst ho; refine Or.inl ⟨by rfl, ?_⟩; intro w hSw; (try dsimp only at hSw); go_simp; try with_reducible rfl)
              try simp only [Act.put, List.setIfInBounds_toArray, List.set_cons_zero, List.set_cons_succ]
              refine take1 (i := 23) (d := some 93) (v := ?_) (by kernel_rfl) (by kernel_rfl) (by kernel_rfl) (by kernel_rfl) (fun _ _ _ h => h) ?_ hHeld ?_
              rotate_left
              · (intro o ho; simp only [List.getElem?_toArray, List.getElem?_cons_succ, List.getElem?_cons_zero, Option.some.injEq] at ho; subst ho; refine Or.inl ⟨by rfl, ?_⟩; intro w hSw; (try dsimp only at hSw); go_simp; try with_reducible rfl)
              try simp only [Act.put, List.setIfInBounds_toArray, List.set_cons_zero, List.set_cons_succ]
              refine call1 (i := 14) (d := some 84) (by kernel_rfl) (by kernel_rfl) ?_
              intro o ho hod K hK; simp only [List.getElem?_toArray, List.getElem?_cons_succ, List.getElem?_cons_zero, Option.some.injEq] at ho; subst ho
              go_simp
              refine (IA.out _ hHeld.1).mono ?_
              rintro e x8 ⟨rfl, c8⟩
              have hB8 := keepS hHeld.1 c8
              refine hK.out _ _ ⟨hB8, (hB8.cell (p := ⟨w3.heap.size, _, none⟩) m7).trans kk7, (hB8.cell (p := ⟨w1.heap.size, _, none⟩) m3).trans kk3, (hB8.cell (p := ⟨w1.heap.size + 1, _, none⟩) m4).trans kk4, (hB8.cell (p := ⟨gd, _, none⟩) md).trans xx0, (hB8.cell (p := ⟨gd, _, none⟩) md).trans xx1⟩ (fun hHeld => ?_)
              clear hK K
              try simp only [Act.put, List.setIfInBounds_toArray, List.set_cons_zero, List.set_cons_succ]
              refine take1 (i := 15) (d := some 85) (v := ?_) (by kernel_rfl) (by kernel_rfl) (by kernel_rfl) (by kernel_rfl) (fun _ _ _ h => h) ?_ hHeld ?_
              rotate_left
              · (intro o ho; simp only [List.getElem?_toArray, List.getElem?_cons_succ, List.getElem?_cons_zero, Option.some.injEq] at ho; subst ho; refine Or.inl ⟨by rfl, ?_⟩; intro w hSw; (try dsimp only at hSw); go_simp; try with_reducible rfl)
              try simp only [Act.put, List.setIfInBounds_toArray, List.set_cons_zero, List.set_cons_succ]
              refine take1 (i := 16) (d := some 86) (v := ?_) (by kernel_rfl) (by kernel_rfl) (by kernel_rfl) (by kernel_rfl) (fun _ _ _ h => h) ?_ hHeld ?_
              rotate_left
              · (intro o ho; simp only [List.getElem?_toArray, List.getElem?_cons_succ, List.getElem?_cons_zero, Option.some.injEq] at ho; subst ho; refine Or.inl ⟨by rfl, ?_⟩; intro w hSw; (try dsimp only at hSw); go_simp; try with_reducible rfl)
              try simp only [Act.put, List.setIfInBounds_toArray, List.set_cons_zero, List.set_cons_succ]
              refine take1 (i := 17) (d := some 87) (v := ?_) (by kernel_rfl) (by kernel_rfl) (by kernel_rfl) (by kernel_rfl) (fun _ _ _ h => h) ?_ hHeld ?_
              rotate_left
              · (intro o ho; simp only [List.getElem?_toArray, List.getElem?_cons_succ, List.getElem?_cons_zero, Option.some.injEq] at ho; subst ho; refine Or.inl ⟨by rfl, ?_⟩; intro w hSw; (try dsimp only at hSw); go_simp; try with_reducible rfl)
              try simp only [Act.put, List.setIfInBounds_toArray, List.set_cons_zero, List.set_cons_succ]
              refine take1 (i := 18) (d := some 88) (v := ?_) (by kernel_rfl) (by kernel_rfl) (by kernel_rfl) (by kernel_rfl) (fun _ _ _ h => h) ?_ hHeld ?_
              rotate_left
              · (intro o ho; simp only [List.getElem?_toArray, List.getElem?_cons_succ, List.getElem?_cons_zero, Option.some.injEq] at ho; subst ho; refine Or.inl ⟨by rfl, ?_⟩; intro w hSw; (try dsimp only at hSw); go_simp; try with_reducible rfl)
              try simp only [Act.put, List.setIfInBounds_toArray, List.set_cons_zero, List.set_cons_succ]
              refine take1 (i := 19) (d := some 89) (v := ?_) (by kernel_rfl) (by kernel_rfl) (by kernel_rfl) (by kernel_rfl) (fun _ _ _ h => h) ?_ hHeld ?_
              rotate_left
              · (intro o ho; simp only [List.getElem?_toArray, List.getElem?_cons_succ, List.getElem?_cons_zero, Option.some.injEq] at ho; subst ho; refine Or.inl ⟨by rfl, ?_⟩; intro w hSw; (try dsimp only at hSw); go_simp; try with_reducible rfl)
              try simp only [Act.put, List.setIfInBounds_toArray, List.set_cons_zero, List.set_cons_succ]
              refine take1 (i := 20) (d := some 90) (v := ?_) (by kernel_rfl) (by kernel_rfl) (by kernel_rfl) (by kernel_rfl) (fun _ _ _ h => h) ?_ hHeld ?_
              rotate_left
              · (intro o ho; simp only [List.getElem?_toArray, List.getElem?_cons_succ, List.getElem?_cons_zero, Option.some.injEq] at ho; subst ho; refine Or.inl ⟨by rfl, ?_⟩; intro w hSw; (try dsimp only at hSw); go_simp; try with_reducible rfl)
              try simp only [Act.put, List.setIfInBounds_toArray, List.set_cons_zero, List.set_cons_succ]
              refine call1 (i := 21) (d := some 91) (by kernel_rfl) (by kernel_rfl) ?_
              intro o ho hod K hK; simp only [List.getElem?_toArray, List.getElem?_cons_succ, List.getElem?_cons_zero, Option.some.injEq] at ho; subst ho
              go_simp
              refine (IB.out _ hHeld.1).mono ?_
              rintro e x9 ⟨rfl, c9⟩
              have hB9 := keepS hHeld.1 c9
              refine hK.out _ _ ⟨hB9, (hB9.cell (p := ⟨w3.heap.size, _, none⟩) m7).trans kk7, (hB9.cell (p := ⟨w1.heap.size, _, none⟩) m3).trans kk3, (hB9.cell (p := ⟨w1.heap.size + 1, _, none⟩) m4).trans kk4, (hB9.cell (p := ⟨gd, _, none⟩) md).trans xx0, (hB9.cell (p := ⟨gd, _, none⟩) md).trans xx1⟩ (fun hHeld => ?_)
              clear hK K
              try simp only [Act.put, List.setIfInBounds_toArray, List.set_cons_zero, List.set_cons_succ]
              refine take1 (i := 22) (d := some 92) (v := ?_) (by kernel_rfl) (by kernel_rfl) (by kernel_rfl) (by kernel_rfl) (fun _ _ _ h => h) ?_ hHeld ?_
              rotate_left
              · (intro o ho; simp only [List.getElem?_toArray, List.getElem?_cons_succ, List.getElem?_cons_zero, Option.some.injEq] at ho; subst ho; refine Or.inl ⟨by rfl, ?_⟩; intro w hSw; (try dsimp only at hSw); go_simp; try with_reducible rfl)
              try simp only [Act.put, List.setIfInBounds_toArray, List.set_cons_zero, List.set_cons_succ]
              refine take1 (i := 24) (d := some 94) (v := ?_) (by kernel_rfl) (by kernel_rfl) (by kernel_rfl) (by kernel_rfl) (fun _ _ _ h => h) ?_ hHeld ?_
              rotate_left
              · (intro o ho; simp only [List.getElem?_toArray, List.getElem?_cons_succ, List.getElem?_cons_zero, Option.some.injEq] at ho; subst ho; refine Or.inl ⟨by rfl, ?_⟩; intro w hSw; (try dsimp only at hSw); go_simp; try with_reducible rfl)
              try simp only [Act.put, List.setIfInBounds_toArray, List.set_cons_zero, List.set_cons_succ]
              refine take1 (i := 25) (d := some 95) (v := ?_) (by kernel_rfl) (by kernel_rfl) (by kernel_rfl) (by kernel_rfl) (fun _ _ _ h => h) ?_ hHeld ?_
              rotate_left
              · (intro o ho; simp only [List.getElem?_toArray, List.getElem?_cons_succ, List.getElem?_cons_zero, Option.some.injEq] at ho; subst ho; refine Or.inl ⟨by rfl, ?_⟩; intro w hSw; (try dsimp only at hSw); go_simp; try with_reducible rfl)
              try simp only [Act.put, List.setIfInBounds_toArray, List.set_cons_zero, List.set_cons_succ]
              refine wpAnyH_done (by kernel_rfl) ?_ _
              have HN := hid (hbl.out.trans (hHeld.1.mono hbl.out.size))
              clear hHeld hB7 c7 hB8 c8 hB9 c9 hP
              go_wp2_with fail
              go_roundw
              case rel => exact ⟨j + 1, hlt, by go_num, HN⟩
              case measure => simp [intOf]; omega
          · go_wp2_with fail
            refine wp_region_held_drew (S := fun w' => Below wr.heap.size wr w' ∧ w'.cell? ⟨w1.heap.size, 0, none⟩ = some (.slice (some ⟨ga, fa, none⟩) la.length ca) ∧ w'.cell? ⟨w1.heap.size + 1, 0, none⟩ = some (.slice (some ⟨gb, fb, none⟩) lb.length cb) ∧ w'.cell? ⟨gd, j * 2, none⟩ = some (.int .i64 rr) ∧ w'.cell? ⟨gd, j * 2 + 1, none⟩ = some (.int .i64 qq)) (by kernel_rfl) ⟨(Below.refl _ _).drew, kk3, kk4, xx0, xx1⟩ (fun hHeld => ?_)
            refine take1 (i := 0) (d := some 56) (v := ?_) (by kernel_rfl) (by kernel_rfl) (by kernel_rfl) (by kernel_rfl) (fun _ _ _ h => h) ?_ hHeld ?_
            rotate_left
            · (intro o ho; simp only [List.getElem?_toArray, List.getElem?_cons_succ, List.getElem?_cons_zero, Option.some.injEq] at ho; subst ho; refine Or.inl ⟨by rfl, ?_⟩; intro w hSw; (try dsimp only at hSw); go_simp; try with_reducible rfl)
            try simp only [Act.put, List.setIfInBounds_toArray, List.set_cons_zero, List.set_cons_succ]
            refine take1 (i := 1) (d := some 57) (v := ?_) (by kernel_rfl) (by kernel_rfl) (by kernel_rfl) (by kernel_rfl) (fun _ _ _ h => h) ?_ hHeld ?_
            rotate_left
            · (intro o ho; simp only [List.getElem?_toArray, List.getElem?_cons_succ, List.getElem?_cons_zero, Option.some.injEq] at ho; subst ho; refine Or.inl ⟨by rfl, ?_⟩; intro w hSw; (try dsimp only at hSw); go_simp; try with_reducible rfl)
            try simp only [Act.put, List.setIfInBounds_toArray, List.set_cons_zero, List.set_cons_succ]
            refine take1 (i := 2) (d := some 58) (v := ?_) (by kernel_rfl) (by kernel_rfl) (by kernel_rfl) (by kernel_rfl) (fun _ _ _ h => h) ?_ hHeld ?_
            rotate_left
            · (intro o ho; simp only [List.getElem?_toArray, List.getElem?_cons_succ, List.getElem?_cons_zero, Option.some.injEq] at ho; subst ho; refine Or.inl ⟨by rfl, ?_⟩; intro w hSw; (try dsimp only at hSw); go_simp; try with_reducible rfl)
            try simp only [Act.put, List.setIfInBounds_toArray, List.set_cons_zero, List.set_cons_succ]
            refine take1 (i := 3) (d := some 59) (v := ?_) (by kernel_rfl) (by kernel_rfl) (by kernel_rfl) (by kernel_rfl) (fun _ _ _ h => h) ?_ hHeld ?_
            rotate_left
            · (intro o ho; simp only [List.getElem?_toArray, List.getElem?_cons_succ, List.getElem?_cons_zero, Option.some.injEq] at ho; subst ho; refine Or.inl ⟨by rfl, ?_⟩; intro w hSw; (try dsimp only at hSw); go_simp; try with_reducible rfl)
            try simp only [Act.put, List.setIfInBounds_toArray, List.set_cons_zero, List.set_cons_succ]
            refine take1 (i := 4) (d := some 60) (v := ?_) (by kernel_rfl) (by kernel_rfl) (by kernel_rfl) (by kernel_rfl) (fun _ _ _ h => h) ?_ hHeld ?_
            rotate_left
            · (intro o ho; simp only [List.getElem?_toArray, List.getElem?_cons_succ, List.getElem?_cons_zero, Option.some.injEq] at ho; subst ho; refine Or.inl ⟨by rfl, ?_⟩; intro w hSw; (try dsimp only at hSw); go_simp; try with_reducible rfl)
            try simp only [Act.put, List.setIfInBounds_toArray, List.set_cons_zero, List.set_cons_succ]
            refine call1 (i := 5) (d := some 61) (by kernel_rfl) (by kernel_rfl) ?_
            intro o ho hod K hK; simp only [List.getElem?_toArray, List.getElem?_cons_succ, List.getElem?_cons_zero, Option.some.injEq] at ho; subst ho
            go_simp
            refine (HA.out _ hHeld.1).mono ?_
            rintro e x5 ⟨rfl, c5⟩
            have hB5 := keepS hHeld.1 c5
            refine hK.out _ _ ⟨hB5, (hB5.cell (p := ⟨w1.heap.size, _, none⟩) m3).trans kk3, (hB5.cell (p := ⟨w1.heap.size + 1, _, none⟩) m4).trans kk4, (hB5.cell (p := ⟨gd, _, none⟩) md).trans xx0, (hB5.cell (p := ⟨gd, _, none⟩) md).trans xx1⟩ (fun hHeld => ?_)
            clear hK K
            try simp only [Act.put, List.setIfInBounds_toArray, List.set_cons_zero, List.set_cons_succ]
            refine take1 (i := 6) (d := some 62) (v := ?_) (by kernel_rfl) (by kernel_rfl) (by kernel_rfl) (by kernel_rfl) (fun _ _ _ h => h) ?_ hHeld ?_
            rotate_left
            · (intro o ho; simp only [List.getElem?_toArray, List.getElem?_cons_succ, List.getElem?_cons_zero, Option.some.injEq] at ho; subst ho; refine Or.inl ⟨by rfl, ?_⟩; intro w hSw; (try dsimp only at hSw); go_simp; try with_reducible rfl)
            try simp only [Act.put, List.setIfInBounds_toArray, List.set_cons_zero, List.set_cons_succ]
            refine take1 (i := 7) (d := some 63) (v := undef) (by kernel_rfl) (by kernel_rfl) (by kernel_rfl) (by kernel_rfl) (fun _ _ _ h => h) ?_ hHeld ?_
            · (intro o ho; simp only [List.getElem?_toArray, List.getElem?_cons_succ, List.getElem?_cons_zero, Option.some.injEq] at ho; subst ho; exact Or.inr ⟨by rfl, rfl⟩)
            try simp only [Act.put, List.setIfInBounds_toArray, List.set_cons_zero, List.set_cons_succ]
            refine take1 (i := 8) (d := some 64) (v := undef) (by kernel_rfl) (by kernel_rfl) (by kernel_rfl) (by kernel_rfl) (fun _ _ _ h => h) ?_ hHeld ?_
            · (intro o ho; simp only [List.getElem?_toArray, List.getElem?_cons_succ, List.getElem?_cons_zero, Option.some.injEq] at ho; subst ho; exact Or.inr ⟨by rfl, rfl⟩)
            try simp only [Act.put, List.setIfInBounds_toArray, List.set_cons_zero, List.set_cons_succ]
            refine take1 (i := 9) (d := some 65) (v := undef) (by kernel_rfl) (by kernel_rfl) (by kernel_rfl) (by kernel_rfl) (fun _ _ _ h => h) ?_ hHeld ?_
            · (intro o ho; simp only [List.getElem?_toArray, List.getElem?_cons_succ, List.getElem?_cons_zero, Option.some.injEq] at ho; subst ho; exact Or.inr ⟨by rfl, rfl⟩)
            try simp only [Act.put, List.setIfInBounds_toArray, List.set_cons_zero, List.set_cons_succ]
            refine take1 (i := 10) (d := some 66) (v := undef) (by kernel_rfl) (by kernel_rfl) (by kernel_rfl) (by kernel_rfl) (fun _ _ _ h => h) ?_ hHeld ?_
            · (intro o ho; simp only [List.getElem?_toArray, List.getElem?_cons_succ, List.getElem?_cons_zero, Option.some.injEq] at ho; subst ho; exact Or.inr ⟨by rfl, rfl⟩)
            try simp only [Act.put, List.setIfInBounds_toArray, List.set_cons_zero, List.set_cons_succ]
            refine take1 (i := 11) (d := some 67) (v := undef) (by kernel_rfl) (by kernel_rfl) (by kernel_rfl) (by kernel_rfl) (fun _ _ _ h => h) ?_ hHeld ?_
            · (intro o ho; simp only [List.getElem?_toArray, List.getElem?_cons_succ, List.getElem?_cons_zero, Option.some.injEq] at ho; subst ho; exact Or.inr ⟨by rfl, rfl⟩)
            try simp only [Act.put, List.setIfInBounds_toArray, List.set_cons_zero, List.set_cons_succ]
            refine take1 (i := 12) (d := some 68) (v := undef) (by kernel_rfl) (by kernel_rfl) (by kernel_rfl) (by kernel_rfl) (fun _ _ _ h => h) ?_ hHeld ?_
            · (intro o ho; simp only [List.getElem?_toArray, List.getElem?_cons_succ, List.getElem?_cons_zero, Option.some.injEq] at ho; subst ho; exact Or.inr ⟨by rfl, rfl⟩)
            try simp only [Act.put, List.setIfInBounds_toArray, List.set_cons_zero, List.set_cons_succ]
            refine take1 (i := 13) (d := some 69) (v := ?_) (by kernel_rfl) (by kernel_rfl) (by kernel_rfl) (by kernel_rfl) (fun _ _ _ h => h) ?_ hHeld ?_
            rotate_left
            · (intro o ho; simp only [List.getElem?_toArray, List.getElem?_cons_succ, List.getElem?_cons_zero, Option.some.injEq] at ho; subst ho; refine Or.inl ⟨by rfl, ?_⟩; intro w hSw; (try dsimp only at hSw); go_simp; try with_reducible rfl)
            try simp only [Act.put, List.setIfInBounds_toArray, List.set_cons_zero, List.set_cons_succ]
            refine take1 (i := 14) (d := some 11) (v := ?_) (by kernel_rfl) (by kernel_rfl) (by kernel_rfl) (by kernel_rfl) (fun _ _ _ h => h) ?_ hHeld ?_
            rotate_left
            · (intro o ho; simp only [List.getElem?_toArray, List.getElem?_cons_succ, List.getElem?_cons_zero, Option.some.injEq] at ho; subst ho; refine Or.inl ⟨by rfl, ?_⟩; intro w hSw; (try dsimp only at hSw); go_simp; try with_reducible rfl)
            try simp only [Act.put, List.setIfInBounds_toArray, List.set_cons_zero, List.set_cons_succ]
            refine wpAnyH_done (by kernel_rfl) ?_ _
            have hP := hHeld.1
            clear hHeld hB5 c5
            go_wp2_with fail
            refine wp_region_held_drew (S := fun w' => Below wr.heap.size wr w' ∧ w'.cell? ⟨w3.heap.size, 0, none⟩ = some (.slice ac uz.length cc) ∧ w'.cell? ⟨w1.heap.size, 0, none⟩ = some (.slice (some ⟨ga, fa, none⟩) la.length ca) ∧ w'.cell? ⟨w1.heap.size + 1, 0, none⟩ = some (.slice (some ⟨gb, fb, none⟩) lb.length cb) ∧ w'.cell? ⟨gd, j * 2, none⟩ = some (.int .i64 rr) ∧ w'.cell? ⟨gd, j * 2 + 1, none⟩ = some (.int .i64 qq)) (by kernel_rfl) ⟨hP.drew, (hP.cell (p := ⟨w3.heap.size, _, none⟩) m7).trans kk7, (hP.cell (p := ⟨w1.heap.size, _, none⟩) m3).trans kk3, (hP.cell (p := ⟨w1.heap.size + 1, _, none⟩) m4).trans kk4, (hP.cell (p := ⟨gd, _, none⟩) md).trans xx0, (hP.cell (p := ⟨gd, _, none⟩) md).trans xx1⟩ (fun hHeld => ?_)
            refine take1 (i := 0) (d := some 70) (v := ?_) (by kernel_rfl) (by kernel_rfl) (by kernel_rfl) (by kernel_rfl) (fun _ _ _ h => h) ?_ hHeld ?_
            rotate_left
            · (intro o ho; simp only [List.getElem?_toArray, List.getElem?_cons_succ, List.getElem?_cons_zero, Option.some.injEq] at ho; subst ho; refine Or.inl ⟨by rfl, ?_⟩; intro w hSw; (try dsimp only at hSw); go_simp; try with_reducible rfl)
            try simp only [Act.put, List.setIfInBounds_toArray, List.set_cons_zero, List.set_cons_succ]
            refine take1 (i := 1) (d := some 71) (v := ?_) (by kernel_rfl) (by kernel_rfl) (by kernel_rfl) (by kernel_rfl) (fun _ _ _ h => h) ?_ hHeld ?_
            rotate_left
            · (intro o ho; simp only [List.getElem?_toArray, List.getElem?_cons_succ, List.getElem?_cons_zero, Option.some.injEq] at ho; subst ho; refine Or.inl ⟨by rfl, ?_⟩; intro w hSw; (try dsimp only at hSw); go_simp; try with_reducible rfl)
            try simp only [Act.put, List.setIfInBounds_toArray, List.set_cons_zero, List.set_cons_succ]
            refine take1 (i := 2) (d := some 72) (v := ?_) (by kernel_rfl) (by kernel_rfl) (by kernel_rfl) (by kernel_rfl) (fun _ _ _ h => h) ?_ hHeld ?_
            rotate_left
            · (intro o ho; simp only [List.getElem?_toArray, List.getElem?_cons_succ, List.getElem?_cons_zero, Option.some.injEq] at ho; subst ho; refine Or.inl ⟨by rfl, ?_⟩; intro w hSw; (try dsimp only at hSw); go_simp; try with_reducible rfl)
            try simp only [Act.put, List.setIfInBounds_toArray, List.set_cons_zero, List.set_cons_succ]
            refine take1 (i := 3) (d := some 73) (v := ?_) (by kernel_rfl) (by kernel_rfl) (by kernel_rfl) (by kernel_rfl) (fun _ _ _ h => h) ?_ hHeld ?_
            rotate_left
            · (intro o ho; simp only [List.getElem?_toArray, List.getElem?_cons_succ, List.getElem?_cons_zero, Option.some.injEq] at ho; subst ho; refine Or.inl ⟨by rfl, ?_⟩; intro w hSw; (try dsimp only at hSw); go_simp; try with_reducible rfl)
            try simp only [Act.put, List.setIfInBounds_toArray, List.set_cons_zero, List.set_cons_succ]
            refine take1 (i := 4) (d := some 74) (v := ?_) (by kernel_rfl) (by kernel_rfl) (by kernel_rfl) (by kernel_rfl) (fun _ _ _ h => h) ?_ hHeld ?_
            rotate_left
            · (intro o ho; simp only [List.getElem?_toArray, List.getElem?_cons_succ, List.getElem?_cons_zero, Option.some.injEq] at ho; subst ho; refine Or.inl ⟨by rfl, ?_⟩; intro w hSw; (try dsimp only at hSw); go_simp; try with_reducible rfl)
            try simp only [Act.put, List.setIfInBounds_toArray, List.set_cons_zero, List.set_cons_succ]
            refine take1 (i := 6) (d := some 76) (v := ?_) (by kernel_rfl) (by kernel_rfl) (by kernel_rfl) (by kernel_rfl) (fun _ _ _ h => h) ?_ hHeld ?_
            rotate_left
            · (intro o ho; simp only [List.getElem?_toArray, List.getElem?_cons_succ, List.getElem?_cons_zero, Option.some.injEq] at ho; subst ho; refine Or.inl ⟨by rfl, ?_⟩; intro w hSw; (try dsimp only at hSw); go_simp; try with_reducible rfl)
            try simp only [Act.put, List.setIfInBounds_toArray, List.set_cons_zero, List.set_cons_succ]
            refine call1 (i := 5) (d := some 75) (by kernel_rfl) (by kernel_rfl) ?_
            intro o ho hod K hK; simp only [List.getElem?_toArray, List.getElem?_cons_succ, List.getElem?_cons_zero, Option.some.injEq] at ho; subst ho
            go_simp
            refine (IC.out _ hHeld.1).mono ?_
            rintro e x7 ⟨rfl, c7⟩
            have hB7 := keepS hHeld.1 c7
            refine hK.out _ _ ⟨hB7, (hB7.cell (p := ⟨w3.heap.size, _, none⟩) m7).trans kk7, (hB7.cell (p := ⟨w1.heap.size, _, none⟩) m3).trans kk3, (hB7.cell (p := ⟨w1.heap.size + 1, _, none⟩) m4).trans kk4, (hB7.cell (p := ⟨gd, _, none⟩) md).trans xx0, (hB7.cell (p := ⟨gd, _, none⟩) md).trans xx1⟩ (fun hHeld => ?_)
            clear hK K
            try simp only [Act.put, List.setIfInBounds_toArray, List.set_cons_zero, List.set_cons_succ]
            refine take1 (i := 7) (d := some 77) (v := ?_) (by kernel_rfl) (by kernel_rfl) (by kernel_rfl) (by kernel_rfl) (fun _ _ _ h => h) ?_ hHeld ?_
            rotate_left
            · (intro o ho; simp only [List.getElem?_toArray, List.getElem?_cons_succ, List.getElem?_cons_zero, Option.some.injEq] at ho; subst ho; refine Or.inl ⟨by rfl, ?_⟩; intro w hSw; (try dsimp only at hSw); go_simp; try with_reducible rfl)
            try simp only [Act.put, List.setIfInBounds_toArray, List.set_cons_zero, List.set_cons_succ]
            refine take1 (i := 8) (d := some 78) (v := ?_) (by kernel_rfl) (by kernel_rfl) (by kernel_rfl) (by kernel_rfl) (fun _ _ _ h => h) ?_ hHeld ?_
            rotate_left
            · (intro o ho; simp only [List.getElem?_toArray, List.getElem?_cons_succ, List.getElem?_cons_zero, Option.some.injEq] at ho; subst ho; refine Or.inl ⟨by rfl, ?_⟩; intro w hSw; (try dsimp only at hSw); go_simp; try with_reducible rfl)
            try simp only [Act.put, List.setIfInBounds_toArray, List.set_cons_zero, List.set_cons_succ]
            refine take1 (i := 9) (d := some 79) (v := ?_) (by kernel_rfl) (by kernel_rfl) (by kernel_rfl) (by kernel_rfl) (fun _ _ _ h => h) ?_ hHeld ?_
            rotate_left
            · (intro o ho; simp only [List.getElem?_toArray, List.getElem?_cons_succ, List.getElem?_cons_zero, Option.some.injEq] at ho; subst ho; refine Or.inl ⟨by rfl, ?_⟩; intro w hSw; (try dsimp only at hSw); go_simp; try with_reducible rfl)
            try simp only [Act.put, List.setIfInBounds_toArray, List.set_cons_zero, List.set_cons_succ]
            refine take1 (i := 10) (d := some 80) (v := ?_) (by kernel_rfl) (by kernel_rfl) (by kernel_rfl) (by kernel_rfl) (fun _ _ _ h => h) ?_ hHeld ?_
            rotate_left
            · (intro o ho; simp only [List.getElem?_toArray, List.getElem?_cons_succ, List.getElem?_cons_zero, Option.some.injEq] at ho; subst ho; refine Or.inl ⟨by rfl, ?_⟩; intro w hSw; (try dsimp only at hSw); go_simp; try with_reducible rfl)
            try simp only [Act.put, List.setIfInBounds_toArray, List.set_cons_zero, List.set_cons_succ]
            refine take1 (i := 11) (d := some 81) (v := ?_) (by kernel_rfl) (by kernel_rfl) (by kernel_rfl) (by kernel_rfl) (fun _ _ _ h => h) ?_ hHeld ?_
            rotate_left
            · (intro o ho; simp only [List.getElem?_toArray, List.getElem?_cons_succ, List.getElem?_cons_zero, Option.some.injEq] at ho; subst ho; refine Or.inl ⟨by rfl, ?_⟩; intro w hSw; (try dsimp only at hSw); go_simp; try with_reducible rfl)
            try simp only [Act.put, List.setIfInBounds_toArray, List.set_cons_zero, List.set_cons_succ]
            refine take1 (i := 12) (d := some 82) (v := ?_) (by kernel_rfl) (by kernel_rfl) (by kernel_rfl) (by kernel_rfl) (fun _ _ _ h => h) ?_ hHeld ?_
            rotate_left
            · (intro o ho; simp only [List.getElem?_toArray, List.getElem?_cons_succ, List.getElem?_cons_zero, Option.some.injEq] at ho; subst ho; refine Or.inl ⟨by rfl, ?_⟩; intro w hSw; (try dsimp only at hSw); go_simp; try with_reducible rfl)
            try simp only [Act.put, List.setIfInBounds_toArray, List.set_cons_zero, List.set_cons_succ]
            refine take1 (i := 13) (d := some 83) (v := ?_) (by kernel_rfl) (by kernel_rfl) (by kernel_rfl) (by kernel_rfl) (fun _ _ _ h => h) ?_ hHeld ?_
            rotate_left
            · (intro o ho; simp only [List.getElem?_toArray, List.getElem?_cons_succ, List.getElem?_cons_zero, Option.some.injEq] at ho; subst ho; refine Or.inl ⟨by rfl, ?_⟩; intro w hSw; (try dsimp only at hSw); go_simp; try with_reducible rfl)
            try simp only [Act.put, List.setIfInBounds_toArray, List.set_cons_zero, List.set_cons_succ]
            refine take1 (i := 23) (d := some 93) (v := ?_) (by kernel_rfl) (by kernel_rfl) (by kernel_rfl) (by kernel_rfl) (fun _ _ _ h => h) ?_ hHeld ?_
            rotate_left
            · (intro o ho; simp only [List.getElem?_toArray, List.getElem?_cons_succ, List.getElem?_cons_zero, Option.some.injEq] at ho; subst ho; refine Or.inl ⟨by rfl, ?_⟩; intro w hSw; (try dsimp only at hSw); go_simp; try with_reducible rfl)
            try simp only [Act.put, List.setIfInBounds_toArray, List.set_cons_zero, List.set_cons_succ]
            refine call1 (i := 14) (d := some 84) (by kernel_rfl) (by kernel_rfl) ?_
            intro o ho hod K hK; simp only [List.getElem?_toArray, List.getElem?_cons_succ, List.getElem?_cons_zero, Option.some.injEq] at ho; subst ho
            go_simp
            refine (IA.out _ hHeld.1).mono ?_
            rintro e x8 ⟨rfl, c8⟩
            have hB8 := keepS hHeld.1 c8
            refine hK.out _ _ ⟨hB8, (hB8.cell (p := ⟨w3.heap.size, _, none⟩) m7).trans kk7, (hB8.cell (p := ⟨w1.heap.size, _, none⟩) m3).trans kk3, (hB8.cell (p := ⟨w1.heap.size + 1, _, none⟩) m4).trans kk4, (hB8.cell (p := ⟨gd, _, none⟩) md).trans xx0, (hB8.cell (p := ⟨gd, _, none⟩) md).trans xx1⟩ (fun hHeld => ?_)
            clear hK K
            try simp only [Act.put, List.setIfInBounds_toArray, List.set_cons_zero, List.set_cons_succ]
            refine take1 (i := 15) (d := some 85) (v := ?_) (by kernel_rfl) (by kernel_rfl) (by kernel_rfl) (by kernel_rfl) (fun _ _ _ h => h) ?_ hHeld ?_
            rotate_left
            · (intro o ho; simp only [List.getElem?_toArray, List.getElem?_cons_succ, List.getElem?_cons_zero, Option.some.injEq] at ho; subst ho; refine Or.inl ⟨by rfl, ?_⟩; intro w hSw; (try dsimp only at hSw); go_simp; try with_reducible rfl)
            try simp only [Act.put, List.setIfInBounds_toArray, List.set_cons_zero, List.set_cons_succ]
            refine take1 (i := 16) (d := some 86) (v := undef) (by kernel_rfl) (by kernel_rfl) (by kernel_rfl) (by kernel_rfl) (fun _ _ _ h => h) ?_ hHeld ?_
            · (intro o ho; simp only [List.getElem?_toArray, List.getElem?_cons_succ, List.getElem?_cons_zero, Option.some.injEq] at ho; subst ho; exact Or.inr ⟨by rfl, rfl⟩)
            try simp only [Act.put, List.setIfInBounds_toArray, List.set_cons_zero, List.set_cons_succ]
            refine take1 (i := 17) (d := some 87) (v := undef) (by kernel_rfl) (by kernel_rfl) (by kernel_rfl) (by kernel_rfl) (fun _ _ _ h => h) ?_ hHeld ?_
            · (intro o ho; simp only [List.getElem?_toArray, List.getElem?_cons_succ, List.getElem?_cons_zero, Option.some.injEq] at ho; subst ho; exact Or.inr ⟨by rfl, rfl⟩)
            try simp only [Act.put, List.setIfInBounds_toArray, List.set_cons_zero, List.set_cons_succ]
            refine take1 (i := 18) (d := some 88) (v := undef) (by kernel_rfl) (by kernel_rfl) (by kernel_rfl) (by kernel_rfl) (fun _ _ _ h => h) ?_ hHeld ?_
            · (intro o ho; simp only [List.getElem?_toArray, List.getElem?_cons_succ, List.getElem?_cons_zero, Option.some.injEq] at ho; subst ho; exact Or.inr ⟨by rfl, rfl⟩)
            try simp only [Act.put, List.setIfInBounds_toArray, List.set_cons_zero, List.set_cons_succ]
            refine take1 (i := 19) (d := some 89) (v := undef) (by kernel_rfl) (by kernel_rfl) (by kernel_rfl) (by kernel_rfl) (fun _ _ _ h => h) ?_ hHeld ?_
            · (intro o ho; simp only [List.getElem?_toArray, List.getElem?_cons_succ, List.getElem?_cons_zero, Option.some.injEq] at ho; subst ho; exact Or.inr ⟨by rfl, rfl⟩)
            try simp only [Act.put, List.setIfInBounds_toArray, List.set_cons_zero, List.set_cons_succ]
            refine take1 (i := 20) (d := some 90) (v := undef) (by kernel_rfl) (by kernel_rfl) (by kernel_rfl) (by kernel_rfl) (fun _ _ _ h => h) ?_ hHeld ?_
            · (intro o ho; simp only [List.getElem?_toArray, List.getElem?_cons_succ, List.getElem?_cons_zero, Option.some.injEq] at ho; subst ho; exact Or.inr ⟨by rfl, rfl⟩)
            try simp only [Act.put, List.setIfInBounds_toArray, List.set_cons_zero, List.set_cons_succ]
            refine take1 (i := 21) (d := some 91) (v := undef) (by kernel_rfl) (by kernel_rfl) (by kernel_rfl) (by kernel_rfl) (fun _ _ _ h => h) ?_ hHeld ?_
            · (intro o ho; simp only [List.getElem?_toArray, List.getElem?_cons_succ, List.getElem?_cons_zero, Option.some.injEq] at ho; subst ho; exact Or.inr ⟨by rfl, rfl⟩)
            try simp only [Act.put, List.setIfInBounds_toArray, List.set_cons_zero, List.set_cons_succ]
            refine take1 (i := 22) (d := some 92) (v := ?_) (by kernel_rfl) (by kernel_rfl) (by kernel_rfl) (by kernel_rfl) (fun _ _ _ h => h) ?_ hHeld ?_
            rotate_left
            · (intro o ho; simp only [List.getElem?_toArray, List.getElem?_cons_succ, List.getElem?_cons_zero, Option.some.injEq] at ho; subst ho; refine Or.inl ⟨by rfl, ?_⟩; intro w hSw; (try dsimp only at hSw); go_simp; try with_reducible rfl)
            try simp only [Act.put, List.setIfInBounds_toArray, List.set_cons_zero, List.set_cons_succ]
            refine take1 (i := 24) (d := some 94) (v := ?_) (by kernel_rfl) (by kernel_rfl) (by kernel_rfl) (by kernel_rfl) (fun _ _ _ h => h) ?_ hHeld ?_
            rotate_left
            · (intro o ho; simp only [List.getElem?_toArray, List.getElem?_cons_succ, List.getElem?_cons_zero, Option.some.injEq] at ho; subst ho; refine Or.inl ⟨by rfl, ?_⟩; intro w hSw; (try dsimp only at hSw); go_simp; try with_reducible rfl)
            try simp only [Act.put, List.setIfInBounds_toArray, List.set_cons_zero, List.set_cons_succ]
            refine take1 (i := 25) (d := some 95) (v := ?_) (by kernel_rfl) (by kernel_rfl) (by kernel_rfl) (by kernel_rfl) (fun _ _ _ h => h) ?_ hHeld ?_
            rotate_left
            · (intro o ho; simp only [List.getElem?_toArray, List.getElem?_cons_succ, List.getElem?_cons_zero, Option.some.injEq] at ho; subst ho; refine Or.inl ⟨by rfl, ?_⟩; intro w hSw; (try dsimp only at hSw); go_simp; try with_reducible rfl)
            try simp only [Act.put, List.setIfInBounds_toArray, List.set_cons_zero, List.set_cons_succ]
            refine wpAnyH_done (by kernel_rfl) ?_ _
            have HN := hid (hbl.out.trans (hHeld.1.mono hbl.out.size))
            clear hHeld hB7 c7 hB8 c8 hP
            go_wp2_with fail
            go_roundw
            case rel => exact ⟨j + 1, hlt, by go_num, HN⟩
            case measure => simp [intOf]; omega
        · have dlt : decide ((j : Int) < (ds.length : Int)) = false := by simp; omega
          have CA : Hid (∀ w', Below wr.heap.size wr w' → Calls Tryz.prog 10 #[.agg #[.slice ac uz.length cc], .agg #[.slice (some ⟨ga, fa, none⟩) la.length ca]] w' fun e w2 => e = .returned (.bool true) ∧ Below w'.heap.size w' w2) := hid (fun w' hb => by
            have := implCov ac uz.length cc (lR uz) (lF uz) (lT uz) (some ⟨ga, fa, none⟩) la.length ca (lR la) (lF la) (lT la) w' (by have := HCA.out.2.2; omega) (by omega) (SCr.out.below hb) (SAr.out.below hb)
            rw [HCV1.out, HCTX.out, HCA.out.1] at this; exact this)
          have CB : Hid (∀ w', Below wr.heap.size wr w' → Calls Tryz.prog 10 #[.agg #[.slice ac uz.length cc], .agg #[.slice (some ⟨gb, fb, none⟩) lb.length cb]] w' fun e w2 => e = .returned (.bool true) ∧ Below w'.heap.size w' w2) := hid (fun w' hb => by
            have := implCov ac uz.length cc (lR uz) (lF uz) (lT uz) (some ⟨gb, fb, none⟩) lb.length cb (lR lb) (lF lb) (lT lb) w' (by have := HCA.out.2.2; omega) (by omega) (SCr.out.below hb) (SBr.out.below hb)
            rw [HCV2.out, HCTX.out, HCA.out.2.1] at this; exact this)
          obtain ⟨X, hX⟩ : ∃ X, (covB (lR la) (lF la) (lT la) (lR lb) (lF lb) (lT lb) la.length lb.length && (ctxB (lR la) (lF la) (lT la) la.length && ctxB (lR lb) (lF lb) (lT lb) lb.length)) = X := ⟨_, rfl⟩
          have CI : Hid (∀ w', Below wr.heap.size wr w' → Calls Tryz.prog 10 #[.agg #[.slice (some ⟨ga, fa, none⟩) la.length ca], .agg #[.slice (some ⟨gb, fb, none⟩) lb.length cb]] w' fun e w2 => e = .returned (.bool X) ∧ Below w'.heap.size w' w2) := hid (fun w' hb => by
            have := implCov (some ⟨ga, fa, none⟩) la.length ca (lR la) (lF la) (lT la) (some ⟨gb, fb, none⟩) lb.length cb (lR lb) (lF lb) (lT lb) w' (by omega) (by omega) (SAr.out.below hb) (SBr.out.below hb)
            rw [hX] at this; exact this)
          have CS : Hid (∀ w', Below wr.heap.size wr w' → Calls Tryz.prog 11 #[.agg #[.slice (some ⟨ga, fa, none⟩) la.length ca], .agg #[.slice (some ⟨gb, fb, none⟩) lb.length cb]] w' fun e w2 => e = .returned (.bool X) ∧ Below w'.heap.size w' w2) := hid (fun w' hb => by
            have := specCov (some ⟨ga, fa, none⟩) la.length ca (lR la) (lF la) (lT la) (some ⟨gb, fb, none⟩) lb.length cb (lR lb) (lF lb) (lT lb) w' (by omega) (by omega) (SAr.out.below hb) (SBr.out.below hb)
            rw [hX] at this; exact this)
          have dX : (X != X) = false := by simp
          clear hX SAr SBr
          go_wp2_with fail
          refine wp_region_held_drew (S := fun w' => Below wr.heap.size wr w' ∧ w'.cell? ⟨w3.heap.size, 0, none⟩ = some (.slice ac uz.length cc) ∧ w'.cell? ⟨w1.heap.size, 0, none⟩ = some (.slice (some ⟨ga, fa, none⟩) la.length ca) ∧ w'.cell? ⟨w1.heap.size + 1, 0, none⟩ = some (.slice (some ⟨gb, fb, none⟩) lb.length cb)) (by kernel_rfl) ⟨(Below.refl _ _).drew, kk7, kk3, kk4⟩ (fun hHeld => ?_)
          refine take1 (i := 0) (d := some 96) (v := ?_) (by kernel_rfl) (by kernel_rfl) (by kernel_rfl) (by kernel_rfl) (fun _ _ _ h => h) ?_ hHeld ?_
          rotate_left
          · (intro o ho; simp only [List.getElem?_toArray, List.getElem?_cons_succ, List.getElem?_cons_zero, Option.some.injEq] at ho; subst ho; refine Or.inl ⟨by rfl, ?_⟩; intro w hSw; (try dsimp only at hSw); go_simp; try with_reducible rfl)
          try simp only [Act.put, List.setIfInBounds_toArray, List.set_cons_zero, List.set_cons_succ]
          refine take1 (i := 1) (d := some 97) (v := ?_) (by kernel_rfl) (by kernel_rfl) (by kernel_rfl) (by kernel_rfl) (fun _ _ _ h => h) ?_ hHeld ?_
          rotate_left
          · (intro o ho; simp only [List.getElem?_toArray, List.getElem?_cons_succ, List.getElem?_cons_zero, Option.some.injEq] at ho; subst ho; refine Or.inl ⟨by rfl, ?_⟩; intro w hSw; (try dsimp only at hSw); go_simp; try with_reducible rfl)
          try simp only [Act.put, List.setIfInBounds_toArray, List.set_cons_zero, List.set_cons_succ]
          refine call1 (i := 2) (d := some 98) (by kernel_rfl) (by kernel_rfl) ?_
          intro o ho hod K hK; simp only [List.getElem?_toArray, List.getElem?_cons_succ, List.getElem?_cons_zero, Option.some.injEq] at ho; subst ho
          go_simp
          refine (CA.out _ hHeld.1).mono ?_
          rintro e x5 ⟨rfl, c5⟩
          have hB5 := keepS hHeld.1 c5
          refine hK.out _ _ ⟨hB5, (hB5.cell (p := ⟨w3.heap.size, _, none⟩) m7).trans kk7, (hB5.cell (p := ⟨w1.heap.size, _, none⟩) m3).trans kk3, (hB5.cell (p := ⟨w1.heap.size + 1, _, none⟩) m4).trans kk4⟩ (fun hHeld => ?_)
          clear hK K
          try simp only [Act.put, List.setIfInBounds_toArray, List.set_cons_zero, List.set_cons_succ]
          refine take1 (i := 3) (d := some 99) (v := ?_) (by kernel_rfl) (by kernel_rfl) (by kernel_rfl) (by kernel_rfl) (fun _ _ _ h => h) ?_ hHeld ?_
          rotate_left
          · (intro o ho; simp only [List.getElem?_toArray, List.getElem?_cons_succ, List.getElem?_cons_zero, Option.some.injEq] at ho; subst ho; refine Or.inl ⟨by rfl, ?_⟩; intro w hSw; (try dsimp only at hSw); go_simp; try with_reducible rfl)
          try simp only [Act.put, List.setIfInBounds_toArray, List.set_cons_zero, List.set_cons_succ]
          refine take1 (i := 4) (d := some 100) (v := ?_) (by kernel_rfl) (by kernel_rfl) (by kernel_rfl) (by kernel_rfl) (fun _ _ _ h => h) ?_ hHeld ?_
          rotate_left
          · (intro o ho; simp only [List.getElem?_toArray, List.getElem?_cons_succ, List.getElem?_cons_zero, Option.some.injEq] at ho; subst ho; refine Or.inl ⟨by rfl, ?_⟩; intro w hSw; (try dsimp only at hSw); go_simp; try with_reducible rfl)
          try simp only [Act.put, List.setIfInBounds_toArray, List.set_cons_zero, List.set_cons_succ]
          refine take1 (i := 5) (d := some 101) (v := ?_) (by kernel_rfl) (by kernel_rfl) (by kernel_rfl) (by kernel_rfl) (fun _ _ _ h => h) ?_ hHeld ?_
          rotate_left
          · (intro o ho; simp only [List.getElem?_toArray, List.getElem?_cons_succ, List.getElem?_cons_zero, Option.some.injEq] at ho; subst ho; refine Or.inl ⟨by rfl, ?_⟩; intro w hSw; (try dsimp only at hSw); go_simp; try with_reducible rfl)
          try simp only [Act.put, List.setIfInBounds_toArray, List.set_cons_zero, List.set_cons_succ]
          refine take1 (i := 6) (d := some 102) (v := ?_) (by kernel_rfl) (by kernel_rfl) (by kernel_rfl) (by kernel_rfl) (fun _ _ _ h => h) ?_ hHeld ?_
          rotate_left
          · (intro o ho; simp only [List.getElem?_toArray, List.getElem?_cons_succ, List.getElem?_cons_zero, Option.some.injEq] at ho; subst ho; refine Or.inl ⟨by rfl, ?_⟩; intro w hSw; (try dsimp only at hSw); go_simp; try with_reducible rfl)
          try simp only [Act.put, List.setIfInBounds_toArray, List.set_cons_zero, List.set_cons_succ]
          refine call1 (i := 7) (d := some 103) (by kernel_rfl) (by kernel_rfl) ?_
          intro o ho hod K hK; simp only [List.getElem?_toArray, List.getElem?_cons_succ, List.getElem?_cons_zero, Option.some.injEq] at ho; subst ho
          go_simp
          refine (CB.out _ hHeld.1).mono ?_
          rintro e x6 ⟨rfl, c6⟩
          have hB6 := keepS hHeld.1 c6
          refine hK.out _ _ ⟨hB6, (hB6.cell (p := ⟨w3.heap.size, _, none⟩) m7).trans kk7, (hB6.cell (p := ⟨w1.heap.size, _, none⟩) m3).trans kk3, (hB6.cell (p := ⟨w1.heap.size + 1, _, none⟩) m4).trans kk4⟩ (fun hHeld => ?_)
          clear hK K
          try simp only [Act.put, List.setIfInBounds_toArray, List.set_cons_zero, List.set_cons_succ]
          refine take1 (i := 8) (d := some 104) (v := ?_) (by kernel_rfl) (by kernel_rfl) (by kernel_rfl) (by kernel_rfl) (fun _ _ _ h => h) ?_ hHeld ?_
          rotate_left
          · (intro o ho; simp only [List.getElem?_toArray, List.getElem?_cons_succ, List.getElem?_cons_zero, Option.some.injEq] at ho; subst ho; refine Or.inl ⟨by rfl, ?_⟩; intro w hSw; (try dsimp only at hSw); go_simp; try with_reducible rfl)
          try simp only [Act.put, List.setIfInBounds_toArray, List.set_cons_zero, List.set_cons_succ]
          refine take1 (i := 9) (d := some 105) (v := ?_) (by kernel_rfl) (by kernel_rfl) (by kernel_rfl) (by kernel_rfl) (fun _ _ _ h => h) ?_ hHeld ?_
          rotate_left
          · (intro o ho; simp only [List.getElem?_toArray, List.getElem?_cons_succ, List.getElem?_cons_zero, Option.some.injEq] at ho; subst ho; refine Or.inl ⟨by rfl, ?_⟩; intro w hSw; (try dsimp only at hSw); go_simp; try with_reducible rfl)
          try simp only [Act.put, List.setIfInBounds_toArray, List.set_cons_zero, List.set_cons_succ]
          refine take1 (i := 10) (d := some 106) (v := ?_) (by kernel_rfl) (by kernel_rfl) (by kernel_rfl) (by kernel_rfl) (fun _ _ _ h => h) ?_ hHeld ?_
          rotate_left
          · (intro o ho; simp only [List.getElem?_toArray, List.getElem?_cons_succ, List.getElem?_cons_zero, Option.some.injEq] at ho; subst ho; refine Or.inl ⟨by rfl, ?_⟩; intro w hSw; (try dsimp only at hSw); go_simp; try with_reducible rfl)
          try simp only [Act.put, List.setIfInBounds_toArray, List.set_cons_zero, List.set_cons_succ]
          refine take1 (i := 11) (d := some 107) (v := ?_) (by kernel_rfl) (by kernel_rfl) (by kernel_rfl) (by kernel_rfl) (fun _ _ _ h => h) ?_ hHeld ?_
          rotate_left
          · (intro o ho; simp only [List.getElem?_toArray, List.getElem?_cons_succ, List.getElem?_cons_zero, Option.some.injEq] at ho; subst ho; refine Or.inl ⟨by rfl, ?_⟩; intro w hSw; (try dsimp only at hSw); go_simp; try with_reducible rfl)
          try simp only [Act.put, List.setIfInBounds_toArray, List.set_cons_zero, List.set_cons_succ]
          refine take1 (i := 12) (d := some 108) (v := ?_) (by kernel_rfl) (by kernel_rfl) (by kernel_rfl) (by kernel_rfl) (fun _ _ _ h => h) ?_ hHeld ?_
          rotate_left
          · (intro o ho; simp only [List.getElem?_toArray, List.getElem?_cons_succ, List.getElem?_cons_zero, Option.some.injEq] at ho; subst ho; refine Or.inl ⟨by rfl, ?_⟩; intro w hSw; (try dsimp only at hSw); go_simp; try with_reducible rfl)
          try simp only [Act.put, List.setIfInBounds_toArray, List.set_cons_zero, List.set_cons_succ]
          refine take1 (i := 14) (d := some 110) (v := ?_) (by kernel_rfl) (by kernel_rfl) (by kernel_rfl) (by kernel_rfl) (fun _ _ _ h => h) ?_ hHeld ?_
          rotate_left
          · (intro o ho; simp only [List.getElem?_toArray, List.getElem?_cons_succ, List.getElem?_cons_zero, Option.some.injEq] at ho; subst ho; refine Or.inl ⟨by rfl, ?_⟩; intro w hSw; (try dsimp only at hSw); go_simp; try with_reducible rfl)
          try simp only [Act.put, List.setIfInBounds_toArray, List.set_cons_zero, List.set_cons_succ]
          refine take1 (i := 15) (d := some 111) (v := ?_) (by kernel_rfl) (by kernel_rfl) (by kernel_rfl) (by kernel_rfl) (fun _ _ _ h => h) ?_ hHeld ?_
          rotate_left
          · (intro o ho; simp only [List.getElem?_toArray, List.getElem?_cons_succ, List.getElem?_cons_zero, Option.some.injEq] at ho; subst ho; refine Or.inl ⟨by rfl, ?_⟩; intro w hSw; (try dsimp only at hSw); go_simp; try with_reducible rfl)
          try simp only [Act.put, List.setIfInBounds_toArray, List.set_cons_zero, List.set_cons_succ]
          refine call1 (i := 13) (d := some 109) (by kernel_rfl) (by kernel_rfl) ?_
          intro o ho hod K hK; simp only [List.getElem?_toArray, List.getElem?_cons_succ, List.getElem?_cons_zero, Option.some.injEq] at ho; subst ho
          go_simp
          refine (CI.out _ hHeld.1).mono ?_
          rintro e x7 ⟨rfl, c7⟩
          have hB7 := keepS hHeld.1 c7
          refine hK.out _ _ ⟨hB7, (hB7.cell (p := ⟨w3.heap.size, _, none⟩) m7).trans kk7, (hB7.cell (p := ⟨w1.heap.size, _, none⟩) m3).trans kk3, (hB7.cell (p := ⟨w1.heap.size + 1, _, none⟩) m4).trans kk4⟩ (fun hHeld => ?_)
          clear hK K
          try simp only [Act.put, List.setIfInBounds_toArray, List.set_cons_zero, List.set_cons_succ]
          refine call1 (i := 16) (d := some 112) (by kernel_rfl) (by kernel_rfl) ?_
          intro o ho hod K hK; simp only [List.getElem?_toArray, List.getElem?_cons_succ, List.getElem?_cons_zero, Option.some.injEq] at ho; subst ho
          go_simp
          refine (CS.out _ hHeld.1).mono ?_
          rintro e x8 ⟨rfl, c8⟩
          have hB8 := keepS hHeld.1 c8
          refine hK.out _ _ ⟨hB8, (hB8.cell (p := ⟨w3.heap.size, _, none⟩) m7).trans kk7, (hB8.cell (p := ⟨w1.heap.size, _, none⟩) m3).trans kk3, (hB8.cell (p := ⟨w1.heap.size + 1, _, none⟩) m4).trans kk4⟩ (fun hHeld => ?_)
          clear hK K
          try simp only [Act.put, List.setIfInBounds_toArray, List.set_cons_zero, List.set_cons_succ]
          refine take1 (i := 17) (d := some 113) (v := ?_) (by kernel_rfl) (by kernel_rfl) (by kernel_rfl) (by kernel_rfl) (fun _ _ _ h => h) ?_ hHeld ?_
          rotate_left
          · (intro o ho; simp only [List.getElem?_toArray, List.getElem?_cons_succ, List.getElem?_cons_zero, Option.some.injEq] at ho; subst ho; refine Or.inl ⟨by rfl, ?_⟩; intro w hSw; (try dsimp only at hSw); go_simp; try with_reducible rfl)
          try simp only [Act.put, List.setIfInBounds_toArray, List.set_cons_zero, List.set_cons_succ]
          refine take1 (i := 18) (d := some 114) (v := ?_) (by kernel_rfl) (by kernel_rfl) (by kernel_rfl) (by kernel_rfl) (fun _ _ _ h => h) ?_ hHeld ?_
          rotate_left
          · (intro o ho; simp only [List.getElem?_toArray, List.getElem?_cons_succ, List.getElem?_cons_zero, Option.some.injEq] at ho; subst ho; refine Or.inl ⟨by rfl, ?_⟩; intro w hSw; (try dsimp only at hSw); go_simp; try with_reducible rfl)
          try simp only [Act.put, List.setIfInBounds_toArray, List.set_cons_zero, List.set_cons_succ]
          refine wpAnyH_done (by kernel_rfl) ?_ _
          have hP := hHeld.1
          have BX8 := hid (BX4.out.below (hbl.out.trans (hP.mono hbl.out.size)))
          have HB8 := hid (keepS HB4.out (hbl.out.trans (hP.mono hbl.out.size)))
          have SC8 := hid (SCr.out.below hP)
          clear hHeld hB5 c5 hB6 c6 hB7 c7 hB8 c8 hP CA CB CI CS SCr kk3 kk4 kk7 m3 m4 m7 dX
          have kk7 := BX8.out.k7
          have HPU := hid (implPutA ac uz.length cc (lR uz) (lF uz) (lT uz) x8 (by have := HCA.out.2.2; omega) SC8.out)
          rw [HCTX.out] at HPU
          have hpz : putZ (lR uz) (lF uz) (lT uz) uz.length = putB (Lk (lR uz) (lF uz) (lT uz) uz.length) := by unfold putZ; rw [HCTX.out]; rfl
          have hpl := putZ_len (lR uz) (lF uz) (lT uz) uz.length
          obtain ⟨bz, hbz⟩ : ∃ bz, putZ (lR uz) (lF uz) (lT uz) uz.length = bz := ⟨_, rfl⟩
          rw [hbz] at HPU hpl hpz
          have HPZ := hid hpz
          clear hpz hbz
          go_wp2_with fail
          refine HPU.out.mono ?_
          rintro e y1 ⟨vp, rfl, op, by1⟩
          obtain ⟨ap, cp, rfl, sp⟩ := op.any
          have HPB : Hid (∀ z ∈ bz, 0 ≤ z ∧ z < 256) := hid (by rw [HPZ.out]; exact put_byte HCTX.out)
          have hfy : Byt (fun i => bz.getD i 0) := fun i => by
            by_cases hi : i < bz.length
            · have e : bz.getD i 0 = bz[i] := by simp [List.getD, hi]
              show 0 ≤ bz.getD i 0 ∧ bz.getD i 0 < 256
              rw [e]; exact HPB.out _ (List.getElem_mem hi)
            · have e : bz.getD i 0 = 0 := by simp [List.getD, List.getElem?_eq_none (show bz.length ≤ i by omega)]
              show 0 ≤ bz.getD i 0 ∧ bz.getD i 0 < 256
              rw [e]; omega
          have HBY := hid (keepS HB8.out by1)
          have HGE := hid (implGet w.heap.size ap bz.length cp 0 (fun i => bz.getD i 0) aT aS aL aE y1 (by omega) hfy sp (HER.out.below HBY.out) HBY.out.size (fun y hy => (World.ownsRow.lt op y.block (by rw [hy]; rfl)).2))
          obtain ⟨gg, hgg, hfl⟩ := put_get HCTX.out hfy (n := bz.length) (by intro i hi; rw [Nat.zero_add]; show bz.getD i 0 = _; rw [HPZ.out]) (by rw [HPZ.out])
          have HRD : Hid (rdC (fun i => bz.getD i 0) bz.length 0 = some (gg, bz.length)) := hid (by
            have := rdC_nat (fun i => bz.getD i 0) bz.length 0
            rw [hgg] at this; exact this)
          have HFL := hid hfl
          have BY1 := hid (BX8.out.below by1)
          have SCy := hid (SC8.out.below by1)
          have dN1 : ((bz.length : Int) != (bz.length : Int)) = false := by simp
          have dN2 : ((uz.length : Int) != (uz.length : Int)) = false := by simp
          clear op sp by1 hfy hgg hfl HPU kk7 BX8 SC8 HB8
          go_wp2_with fail
          refine HGE.out.mono ?_
          rintro e y2 ⟨by2, hres⟩
          obtain ⟨vk, rfl, frk⟩ : ∃ vk, e = .returned (.tuple #[.agg #[vk], .int .i64 (bz.length : Int), .int .i64 0]) ∧ FR y2 y1.heap.size vk uz := by
            rcases hres with ⟨g', x', v, hr, he, hf⟩ | ⟨hr, _⟩
            · rw [HRD.out] at hr
              injection hr with hr
              injection hr with e1 e2
              subst e1 e2
              rw [HFL.out] at hf
              exact ⟨v, he, hf⟩
            · rw [HRD.out] at hr; cases hr
          obtain ⟨ak, ck, rfl, rk⟩ := FR.rs frk
          obtain ⟨W9, hW9⟩ : ∃ W9, y2.alloc (.cells #[.slice ak uz.length ck] 25) = W9 := ⟨_, rfl⟩
          have bW9 : Below y2.heap.size y2 W9 := by rw [← hW9]; exact (Below.refl _ _).alloc (Nat.le_refl _) _
          have b29 := keepS by2 bW9
          have kk14 : W9.cell? ⟨y2.heap.size, 0, none⟩ = some (.slice ak uz.length ck) := by rw [← hW9]; simp
          have kk7 := (BY1.out.below b29).k7
          have m7 := (BY1.out.below b29).l7
          have m14 : y2.heap.size < W9.heap.size := by rw [← hW9]; simp
          have RK := hid (rk.below bW9)
          have RC := hid (SCy.out.below b29)
          have HB9 := hid (keepS HBY.out b29)
          clear hres frk rk by2 bW9 b29 HGE HRD HFL BY1 SCy HBY
          go_wp2_with fail
          try rw [hW9]
          clear hW9
          go_loopw [17] (fun iv wr => ∃ t : Nat, t ≤ uz.length ∧ iv = .int .i64 (t : Int) ∧ Hid (Below W9.heap.size W9 wr)) (fun iv _ => uz.length - (intOf iv).toNat)
          case atStart => exact ⟨0, Nat.zero_le _, rfl, hid (Below.refl _ _)⟩
          case round =>
            obtain ⟨t, ht, rfl, hbt⟩ := hrel
            have hu1000 : uz.length ≤ 1000 := HCA.out.2.2
            have z14 := (hbt.out.cell (p := ⟨y2.heap.size, 0, none⟩) m14).trans kk14
            have z7 := (hbt.out.cell (p := ⟨w3.heap.size, 0, none⟩) m7).trans kk7
            by_cases htl : t < uz.length
            · have dt : decide ((t : Int) < (uz.length : Int)) = true := by simp; omega
              obtain ⟨gk, ok, rfl, hgk, hck⟩ : ∃ gk ok, ak = some ⟨gk, ok, none⟩ ∧ gk < W9.heap.size ∧ ∀ i, i < uz.length → W9.cell? ⟨gk, ok + i * 3, none⟩ = some (.int .i64 (lR uz i)) ∧ W9.cell? ⟨gk, ok + i * 3 + 1, none⟩ = some (.int .i64 (lF uz i)) ∧ W9.cell? ⟨gk, ok + i * 3 + 2, none⟩ = some (.int .i64 (lT uz i)) := by
                rcases RK.out with h0 | ⟨gk, ok, ee, h1, h2⟩
                · omega
                · exact ⟨gk, ok, ee, h1, h2⟩
              obtain ⟨gc, oc, rfl, hgc, hcc⟩ : ∃ gc oc, ac = some ⟨gc, oc, none⟩ ∧ gc < W9.heap.size ∧ ∀ i, i < uz.length → W9.cell? ⟨gc, oc + i * 3, none⟩ = some (.int .i64 (lR uz i)) ∧ W9.cell? ⟨gc, oc + i * 3 + 1, none⟩ = some (.int .i64 (lF uz i)) ∧ W9.cell? ⟨gc, oc + i * 3 + 2, none⟩ = some (.int .i64 (lT uz i)) := by
                rcases RC.out with h0 | ⟨gc, oc, ee, h1, h2⟩
                · omega
                · exact ⟨gc, oc, ee, h1, h2⟩
              obtain ⟨p0, p1, p2⟩ := hck t htl
              obtain ⟨q0, q1, q2⟩ := hcc t htl
              obtain ⟨tr, htr⟩ : ∃ tr, lR uz t = tr := ⟨_, rfl⟩
              obtain ⟨tf, htf⟩ : ∃ tf, lF uz t = tf := ⟨_, rfl⟩
              obtain ⟨tt, htt⟩ : ∃ tt, lT uz t = tt := ⟨_, rfl⟩
              rw [htr] at p0 q0
              rw [htf] at p1 q1
              rw [htt] at p2 q2
              have s0 := (hbt.out.cell (p := ⟨gk, ok + t * 3, none⟩) hgk).trans p0
              have s1 := (hbt.out.cell (p := ⟨gk, ok + t * 3 + 1, none⟩) hgk).trans p1
              have s2 := (hbt.out.cell (p := ⟨gk, ok + t * 3 + 2, none⟩) hgk).trans p2
              have r0 := (hbt.out.cell (p := ⟨gc, oc + t * 3, none⟩) hgc).trans q0
              have r1 := (hbt.out.cell (p := ⟨gc, oc + t * 3 + 1, none⟩) hgc).trans q1
              have r2 := (hbt.out.cell (p := ⟨gc, oc + t * 3 + 2, none⟩) hgc).trans q2
              have i1 : (0 : Int) ≤ (t : Int) := Int.natCast_nonneg _
              have i2 : (t : Int) < (uz.length : Int) := by omega
              clear hck hcc p0 p1 p2 q0 q1 q2 htr htf htt
              go_wp2_with fail
              go_quiet (fail)
              have HN := hid (below_drewN hbt.out nq)
              go_wp2_with fail
              go_roundw
              case rel => exact ⟨t + 1, htl, by go_num, HN⟩
              case measure => simp [intOf]; omega
            · have dt : decide ((t : Int) < (uz.length : Int)) = false := by simp; omega
              have HFIN := hid (keepS HB9.out hbt.out)
              go_wp2_with fail
              go_ret
              exact ⟨rfl, HFIN.out⟩
  · clear s1 hf1 hE
    go_enter Tryz.func3, Tryz.ntmps3
    go_wp2_with fail
    go_ret
    exact ⟨rfl, Below.refl _ _⟩
end Go.Proofs.YtbimcammjohaoadGreatDoor.fnContext
