import Derived.Test.YtbimcammjohaoabHas4
import Derived.Test.YtbimcammjohaoabEq
namespace Go.Proofs.Ytbimcammjohaoab.fnExactHasDot
open Go.ChangeShapes Go.WideShapes Go.ChangeAt Go.RowKit Go.Maps
set_option linter.unusedVariables false
set_option linter.unusedSimpArgs false

set_option maxRecDepth 100000 in
set_option maxHeartbeats 1000000 in
theorem walk (w : World) (a : Option Addr) (n c : Nat) (R F T : Nat → Int) (hn : n ≤ 9223372036854775807) (h : RSeg w a n R F T) (iR : I64 R) (iF : I64 F) (iT : I64 T) (r q : Int) (hr : (Lit.int .i64 r).wf = true) (hq : (Lit.int .i64 q).wf = true) :
    Calls Try.prog 5 #[.agg #[.slice a n c], .agg #[.int .i64 r, .int .i64 q]] w fun e w' => e = .returned (.bool true) ∧ Below w.heap.size w w' := by
  obtain ⟨W0, hW0⟩ : ∃ W0, (w.alloc (.cells #[.slice a n c] 24)).alloc (.cells #[.int .i64 r, .int .i64 q] 35) = W0 := ⟨_, rfl⟩
  have bW : Below w.heap.size w W0 := by rw [← hW0]; exact below2 _ _ _
  have hbox : W0.cell? ⟨w.heap.size, 0, none⟩ = some (.slice a n c) := by rw [← hW0]; simp
  have x0 : W0.cell? ⟨w.heap.size + 1, 0, none⟩ = some (.int .i64 r) := by rw [← hW0]; simp
  have x1 : W0.cell? ⟨w.heap.size + 1, 1, none⟩ = some (.int .i64 q) := by rw [← hW0]; simp
  have zW : W0.heap.size = w.heap.size + 2 := by rw [← hW0]; simp
  go_enter Try.func5, Try.ntmps5
  go_wp2_with fail
  try rw [hW0]
  clear hW0
  refine (szContext a n c 1048576 _ hn (by omega) (by omega)).mono ?_
  rintro e w1 ⟨rfl, b1⟩
  have z1 := b1.size
  have bx := (b1.cell (p := ⟨w.heap.size, 0, none⟩) (show w.heap.size < W0.heap.size by omega)).trans hbox
  have y0 := (b1.cell (p := ⟨w.heap.size + 1, 0, none⟩) (show w.heap.size + 1 < W0.heap.size by omega)).trans x0
  have y1 := (b1.cell (p := ⟨w.heap.size + 1, 1, none⟩) (show w.heap.size + 1 < W0.heap.size by omega)).trans x1
  have B1 := keepS bW b1
  clear b1 hbox x0 x1 bW
  by_cases hl : n ≤ 1048576
  · rw [show szLeft 1048576 n = 1048576 - n from if_neg (by omega)]
    have HB := hid B1
    have HH := hid h
    have zc : w.heap.size < w1.heap.size := by omega
    have zd : w.heap.size + 1 < w1.heap.size := by omega
    clear B1 h
    go_wp2_with fail
    refine wp_region_held_drew (S := fun w' => Below w1.heap.size w1 w' ∧ w'.cell? ⟨w.heap.size, 0, none⟩ = some (.slice a n c) ∧ w'.cell? ⟨w.heap.size + 1, 0, none⟩ = some (.int .i64 r) ∧ w'.cell? ⟨w.heap.size + 1, 1, none⟩ = some (.int .i64 q)) (by kernel_rfl) ⟨(Below.refl _ _).drew, bx, y0, y1⟩ (fun hHeld => ?_)
    refine take1 (i := 0) (d := some 14) (v := ?_) (by kernel_rfl) (by kernel_rfl) (by kernel_rfl) (by kernel_rfl) (fun _ _ _ h => h) ?_ hHeld ?_
    rotate_left
    · (intro o ho; simp only [List.getElem?_toArray, List.getElem?_cons_succ, List.getElem?_cons_zero, Option.some.injEq] at ho; subst ho; refine Or.inl ⟨by rfl, ?_⟩; intro w hSw; (try dsimp only at hSw); go_simp; try with_reducible rfl)
    try simp only [Act.put, List.setIfInBounds_toArray, List.set_cons_zero, List.set_cons_succ]
    refine take1 (i := 2) (d := some 16) (v := ?_) (by kernel_rfl) (by kernel_rfl) (by kernel_rfl) (by kernel_rfl) (fun _ _ _ h => h) ?_ hHeld ?_
    rotate_left
    · (intro o ho; simp only [List.getElem?_toArray, List.getElem?_cons_succ, List.getElem?_cons_zero, Option.some.injEq] at ho; subst ho; refine Or.inl ⟨by rfl, ?_⟩; intro w hSw; (try dsimp only at hSw); go_simp; try with_reducible rfl)
    try simp only [Act.put, List.setIfInBounds_toArray, List.set_cons_zero, List.set_cons_succ]
    refine call1 (i := 1) (d := some 15) (by kernel_rfl) (by kernel_rfl) ?_
    intro o ho hod K hK; simp only [List.getElem?_toArray, List.getElem?_cons_succ, List.getElem?_cons_zero, Option.some.injEq] at ho; subst ho
    go_simp
    refine (toContext a n c R F T _ hl (HH.out.below (keepS HB.out hHeld.1))).mono ?_
    rintro e w2 ⟨g2, hg2, hg2', rfl, s2, b2⟩
    have hB := keepS hHeld.1 b2
    refine hK.out _ _ ⟨hB, (hB.cell (p := ⟨w.heap.size, 0, none⟩) zc).trans bx, (hB.cell (p := ⟨w.heap.size + 1, 0, none⟩) zd).trans y0, (hB.cell (p := ⟨w.heap.size + 1, 1, none⟩) zd).trans y1⟩ (fun hHeld => ?_)
    clear hK K
    try simp only [Act.put, List.setIfInBounds_toArray, List.set_cons_zero, List.set_cons_succ]
    refine call1 (i := 3) (d := some 17) (by kernel_rfl) (by kernel_rfl) ?_
    intro o ho hod K hK; simp only [List.getElem?_toArray, List.getElem?_cons_succ, List.getElem?_cons_zero, Option.some.injEq] at ho; subst ho
    go_simp
    refine (toDot r q _).mono ?_
    rintro e w3 ⟨rfl, b3⟩
    have hB3 := keepS hB b3
    refine hK.out _ _ ⟨hB3, (hB3.cell (p := ⟨w.heap.size, 0, none⟩) zc).trans bx, (hB3.cell (p := ⟨w.heap.size + 1, 0, none⟩) zd).trans y0, (hB3.cell (p := ⟨w.heap.size + 1, 1, none⟩) zd).trans y1⟩ (fun hHeld => ?_)
    clear hK K
    try simp only [Act.put, List.setIfInBounds_toArray, List.set_cons_zero, List.set_cons_succ]
    refine call1 (i := 4) (d := some 18) (by kernel_rfl) (by kernel_rfl) ?_
    intro o ho hod K hK; simp only [List.getElem?_toArray, List.getElem?_cons_succ, List.getElem?_cons_zero, Option.some.injEq] at ho; subst ho
    go_simp
    refine (specHas _ n n R F T r q _ hl (s2.below b3)).mono ?_
    rintro e w4 ⟨rfl, b4⟩
    have hB4 := keepS hB3 b4
    refine hK.out _ _ ⟨hB4, (hB4.cell (p := ⟨w.heap.size, 0, none⟩) zc).trans bx, (hB4.cell (p := ⟨w.heap.size + 1, 0, none⟩) zd).trans y0, (hB4.cell (p := ⟨w.heap.size + 1, 1, none⟩) zd).trans y1⟩ (fun hHeld => ?_)
    clear hK K
    try simp only [Act.put, List.setIfInBounds_toArray, List.set_cons_zero, List.set_cons_succ]
    refine take1 (i := 5) (d := some 6) (v := ?_) (by kernel_rfl) (by kernel_rfl) (by kernel_rfl) (by kernel_rfl) (fun _ _ _ h => h) ?_ hHeld ?_
    rotate_left
    · (intro o ho; simp only [List.getElem?_toArray, List.getElem?_cons_succ, List.getElem?_cons_zero, Option.some.injEq] at ho; subst ho; refine Or.inl ⟨by rfl, ?_⟩; intro w hSw; (try dsimp only at hSw); go_simp; try with_reducible rfl)
    try simp only [Act.put, List.setIfInBounds_toArray, List.set_cons_zero, List.set_cons_succ]
    refine wpAnyH_done (by kernel_rfl) ?_ _
    have B4 := keepS HB.out hB4
    have z4 := hB4.size
    have bx4 := hHeld.2.1
    have y04 := hHeld.2.2.1
    have y14 := hHeld.2.2.2
    clear hHeld hB hB3 hB4 b2 b3 b4 s2 bx y0 y1 HB
    generalize hBB : hasB R F T r q n = BB
    have HBB := hid hBB
    clear hBB
    go_wp2_with fail
    refine (toContext a n c R F T _ hl (HH.out.below B4)).mono ?_
    rintro e w5 ⟨g5, hg5, hg5', rfl, s5, b5⟩
    have z5 := b5.size
    have bx5 := (b5.cell (p := ⟨w.heap.size, 0, none⟩) (show w.heap.size < w4.heap.size by omega)).trans bx4
    have y05 := (b5.cell (p := ⟨w.heap.size + 1, 0, none⟩) (show w.heap.size + 1 < w4.heap.size by omega)).trans y04
    have y15 := (b5.cell (p := ⟨w.heap.size + 1, 1, none⟩) (show w.heap.size + 1 < w4.heap.size by omega)).trans y14
    have B5 := keepS B4 b5
    obtain ⟨W6, hW6⟩ : ∃ W6, w5.alloc (.cells #[.slice (some ⟨g5, 0, none⟩) n n] 29) = W6 := ⟨_, rfl⟩
    have b6 : Below w5.heap.size w5 W6 := by rw [← hW6]; exact (Below.refl _ _).alloc (Nat.le_refl _) _
    have z6 : W6.heap.size = w5.heap.size + 1 := by rw [← hW6]; simp
    have x6 : W6.cell? ⟨w5.heap.size, 0, none⟩ = some (.slice (some ⟨g5, 0, none⟩) n n) := by rw [← hW6]; simp
    have bx6 := (b6.cell (p := ⟨w.heap.size, 0, none⟩) (show w.heap.size < w5.heap.size by omega)).trans bx5
    have y06 := (b6.cell (p := ⟨w.heap.size + 1, 0, none⟩) (show w.heap.size + 1 < w5.heap.size by omega)).trans y05
    have y16 := (b6.cell (p := ⟨w.heap.size + 1, 1, none⟩) (show w.heap.size + 1 < w5.heap.size by omega)).trans y15
    have HS6 := hid (s5.below b6)
    have HB6 := hid (keepS B5 b6)
    have zc6 : w.heap.size < W6.heap.size := by omega
    have zd6 : w.heap.size + 1 < W6.heap.size := by omega
    have zx6 : w5.heap.size < W6.heap.size := by omega
    clear bx4 bx5 y04 y05 y14 y15 B4 B5 s5 b5 b6
    go_wp2_with fail
    try rw [hW6]
    clear hW6
    refine wp_region_held_drew (S := fun w' => Below W6.heap.size W6 w' ∧ w'.cell? ⟨w5.heap.size, 0, none⟩ = some (.slice (some ⟨g5, 0, none⟩) n n) ∧ w'.cell? ⟨w.heap.size + 1, 0, none⟩ = some (.int .i64 r) ∧ w'.cell? ⟨w.heap.size + 1, 1, none⟩ = some (.int .i64 q)) (by kernel_rfl) ⟨(Below.refl _ _).drew, x6, y06, y16⟩ (fun hHeld => ?_)
    refine take1 (i := 0) (d := some 21) (v := ?_) (by kernel_rfl) (by kernel_rfl) (by kernel_rfl) (by kernel_rfl) (fun _ _ _ h => h) ?_ hHeld ?_
    rotate_left
    · (intro o ho; simp only [List.getElem?_toArray, List.getElem?_cons_succ, List.getElem?_cons_zero, Option.some.injEq] at ho; subst ho; refine Or.inl ⟨by rfl, ?_⟩; intro w hSw; (try dsimp only at hSw); go_simp; try with_reducible rfl)
    try simp only [Act.put, List.setIfInBounds_toArray, List.set_cons_zero, List.set_cons_succ]
    refine take1 (i := 1) (d := some 22) (v := ?_) (by kernel_rfl) (by kernel_rfl) (by kernel_rfl) (by kernel_rfl) (fun _ _ _ h => h) ?_ hHeld ?_
    rotate_left
    · (intro o ho; simp only [List.getElem?_toArray, List.getElem?_cons_succ, List.getElem?_cons_zero, Option.some.injEq] at ho; subst ho; refine Or.inl ⟨by rfl, ?_⟩; intro w hSw; (try dsimp only at hSw); go_simp; try with_reducible rfl)
    try simp only [Act.put, List.setIfInBounds_toArray, List.set_cons_zero, List.set_cons_succ]
    refine call1 (i := 2) (d := some 23) (by kernel_rfl) (by kernel_rfl) ?_
    intro o ho hod K hK; simp only [List.getElem?_toArray, List.getElem?_cons_succ, List.getElem?_cons_zero, Option.some.injEq] at ho; subst ho
    go_simp
    refine (toDot r q _).mono ?_
    rintro e w7 ⟨rfl, b7⟩
    have hB := keepS hHeld.1 b7
    refine hK.out _ _ ⟨hB, (hB.cell (p := ⟨w5.heap.size, 0, none⟩) zx6).trans x6, (hB.cell (p := ⟨w.heap.size + 1, 0, none⟩) zd6).trans y06, (hB.cell (p := ⟨w.heap.size + 1, 1, none⟩) zd6).trans y16⟩ (fun hHeld => ?_)
    clear hK K
    try simp only [Act.put, List.setIfInBounds_toArray, List.set_cons_zero, List.set_cons_succ]
    refine call1 (i := 3) (d := some 24) (by kernel_rfl) (by kernel_rfl) ?_
    intro o ho hod K hK; simp only [List.getElem?_toArray, List.getElem?_cons_succ, List.getElem?_cons_zero, Option.some.injEq] at ho; subst ho
    go_simp
    refine (implHas _ n n R F T r q _ hl (HS6.out.below hB) hr).mono ?_
    rintro e w8 ⟨rfl, b8⟩
    rw [HBB.out]
    have hB8 := keepS hB b8
    refine hK.out _ _ ⟨hB8, (hB8.cell (p := ⟨w5.heap.size, 0, none⟩) zx6).trans x6, (hB8.cell (p := ⟨w.heap.size + 1, 0, none⟩) zd6).trans y06, (hB8.cell (p := ⟨w.heap.size + 1, 1, none⟩) zd6).trans y16⟩ (fun hHeld => ?_)
    clear hK K
    try simp only [Act.put, List.setIfInBounds_toArray, List.set_cons_zero, List.set_cons_succ]
    refine take1 (i := 4) (d := some 8) (v := ?_) (by kernel_rfl) (by kernel_rfl) (by kernel_rfl) (by kernel_rfl) (fun _ _ _ h => h) ?_ hHeld ?_
    rotate_left
    · (intro o ho; simp only [List.getElem?_toArray, List.getElem?_cons_succ, List.getElem?_cons_zero, Option.some.injEq] at ho; subst ho; refine Or.inl ⟨by rfl, ?_⟩; intro w hSw; (try dsimp only at hSw); go_simp; try with_reducible rfl)
    try simp only [Act.put, List.setIfInBounds_toArray, List.set_cons_zero, List.set_cons_succ]
    refine wpAnyH_done (by kernel_rfl) ?_ _
    have HS8 := hid (HS6.out.below hB8)
    have HB8 := hid (keepS HB6.out hB8)
    have z8 := hB8.size
    have x8 := hHeld.2.1
    have bx8 := (hB8.cell (p := ⟨w.heap.size, 0, none⟩) zc6).trans bx6
    have zc8 : w.heap.size < w8.heap.size := by omega
    have zx8 : w5.heap.size < w8.heap.size := by omega
    clear hHeld hB hB8 b7 b8 HS6 HB6 x6 bx6 y06 y16
    go_wp2_with fail
    refine wp_region_held_drew (S := fun w' => Below w8.heap.size w8 w' ∧ w'.cell? ⟨w5.heap.size, 0, none⟩ = some (.slice (some ⟨g5, 0, none⟩) n n) ∧ w'.cell? ⟨w.heap.size, 0, none⟩ = some (.slice a n c)) (by kernel_rfl) ⟨(Below.refl _ _).drew, x8, bx8⟩ (fun hHeld => ?_)
    refine take1 (i := 0) (d := some 28) (v := ?_) (by kernel_rfl) (by kernel_rfl) (by kernel_rfl) (by kernel_rfl) (fun _ _ _ h => h) ?_ hHeld ?_
    rotate_left
    · (intro o ho; simp only [List.getElem?_toArray, List.getElem?_cons_succ, List.getElem?_cons_zero, Option.some.injEq] at ho; subst ho; refine Or.inl ⟨by rfl, ?_⟩; intro w hSw; (try dsimp only at hSw); go_simp; try with_reducible rfl)
    try simp only [Act.put, List.setIfInBounds_toArray, List.set_cons_zero, List.set_cons_succ]
    refine take1 (i := 1) (d := some 29) (v := ?_) (by kernel_rfl) (by kernel_rfl) (by kernel_rfl) (by kernel_rfl) (fun _ _ _ h => h) ?_ hHeld ?_
    rotate_left
    · (intro o ho; simp only [List.getElem?_toArray, List.getElem?_cons_succ, List.getElem?_cons_zero, Option.some.injEq] at ho; subst ho; refine Or.inl ⟨by rfl, ?_⟩; intro w hSw; (try dsimp only at hSw); go_simp; try with_reducible rfl)
    try simp only [Act.put, List.setIfInBounds_toArray, List.set_cons_zero, List.set_cons_succ]
    refine call1 (i := 2) (d := some 30) (by kernel_rfl) (by kernel_rfl) ?_
    intro o ho hod K hK; simp only [List.getElem?_toArray, List.getElem?_cons_succ, List.getElem?_cons_zero, Option.some.injEq] at ho; subst ho
    go_simp
    refine (toContext a n c R F T _ hl (HH.out.below (keepS HB8.out hHeld.1))).mono ?_
    rintro e wa ⟨ga, hga, hga', rfl, sa, ba⟩
    have hB := keepS hHeld.1 ba
    refine hK.out _ _ ⟨hB, (hB.cell (p := ⟨w5.heap.size, 0, none⟩) zx8).trans x8, (hB.cell (p := ⟨w.heap.size, 0, none⟩) zc8).trans bx8⟩ (fun hHeld => ?_)
    clear hK K
    try simp only [Act.put, List.setIfInBounds_toArray, List.set_cons_zero, List.set_cons_succ]
    refine call1 (i := 3) (d := some 31) (by kernel_rfl) (by kernel_rfl) ?_
    intro o ho hod K hK; simp only [List.getElem?_toArray, List.getElem?_cons_succ, List.getElem?_cons_zero, Option.some.injEq] at ho; subst ho
    go_simp
    refine (eqContext _ _ n n n R F T _ hl (HS8.out.below hB) sa).mono ?_
    rintro e wb ⟨rfl, bb⟩
    have hB8 := keepS hB bb
    refine hK.out _ _ ⟨hB8, (hB8.cell (p := ⟨w5.heap.size, 0, none⟩) zx8).trans x8, (hB8.cell (p := ⟨w.heap.size, 0, none⟩) zc8).trans bx8⟩ (fun hHeld => ?_)
    clear hK K
    try simp only [Act.put, List.setIfInBounds_toArray, List.set_cons_zero, List.set_cons_succ]
    refine take1 (i := 4) (d := some 32) (v := ?_) (by kernel_rfl) (by kernel_rfl) (by kernel_rfl) (by kernel_rfl) (fun _ _ _ h => h) ?_ hHeld ?_
    rotate_left
    · (intro o ho; simp only [List.getElem?_toArray, List.getElem?_cons_succ, List.getElem?_cons_zero, Option.some.injEq] at ho; subst ho; refine Or.inl ⟨by rfl, ?_⟩; intro w hSw; (try dsimp only at hSw); go_simp; try with_reducible rfl)
    try simp only [Act.put, List.setIfInBounds_toArray, List.set_cons_zero, List.set_cons_succ]
    refine wpAnyH_done (by kernel_rfl) ?_ _
    have HZ := hid (keepS HB8.out hB8)
    clear hHeld hB hB8 ba bb sa
    go_wp2_with fail
    go_ret
    exact ⟨rfl, HZ.out⟩
  · rw [show szLeft 1048576 n = -1 from if_pos (by omega)]
    have HB := hid B1
    clear B1
    go_wp2_with fail
    go_ret
    exact ⟨rfl, HB.out⟩

theorem own : ownKnob Try.prog.godebug = none := by kernel_rfl
theorem laidOut : laidOutB Try.prog = true := by kernel_rfl

set_option maxRecDepth 100000 in
theorem lifted (os : Os) (started : os.Started) (H : Type) (enc : TypeId × Value → H) :
    ReturnsInHanded {} Try.checked os 5 .any (Rows.fnExactHasDotSpec.pre6 enc Try.prog Try.f5 Rows.fnExactHasDotRow.domain false) (Rows.fnExactHasDotSpec.post enc Try.prog Try.f5 false true false false) := by
  refine returnsInHanded_of_change (C := Try.checked) own started (by kernel_rfl) Try.func5
    (ChangeSpec.witness6 (enc := enc) (C := Try.checked) false ⟨#[], #[.agg #[.slice none 0 0], .agg #[.int .i64 0, .int .i64 0]], []⟩ 8 (by kernel_rfl) (by kernel_rfl) (by kernel_rfl) (by kernel_rfl)) ?_
  intro W base args ds gs before hval0 hW hcnd _
  have hval : ∀ (j : Nat) t v, Try.f5.params[j]? = some t → args[j]? = some v → Value.okWide Try.prog W .any base t v := hval0
  have hW' := hW
  obtain ⟨p, q, hA0, hV, rfl, hfz, hnd⟩ := hW
  have hA : DataW.TrodAll enc Try.prog W 0 (fun _ => true) true Try.f5.params.toList args.toList ds p := hA0
  rw [Try.params5] at hA hval
  obtain ⟨v0, vs0, d0, ds0, p0, q0, hargs, rfl, rfl, h0, r0⟩ := trodAll_cons hA
  obtain ⟨v1, vs1, d1, ds1, p1, q1, rfl, rfl, rfl, h1, r1⟩ := trodAll_cons r0
  obtain ⟨rfl, rfl, rfl⟩ := trodAll_nil r1
  obtain rfl : args = #[v0, v1] := by cases args; simp_all
  obtain ⟨rfl, rfl⟩ := trodVars_none hV
  have k0 := h0
  have lt0 : ∀ x ∈ p0, x.block < W.heap.size := by obtain ⟨m, hm⟩ := k0; exact DataW.trod_lt m _ _ _ hm
  obtain ⟨a0, n0, c0, R0, F0, T0, rfl, hl0, s0, iR0, iF0, iT0⟩ := openCtx (hval 0 24 v0 rfl rfl) h0
  have k1 := h1
  have lt1 : ∀ x ∈ p1, x.block < W.heap.size := by obtain ⟨m, hm⟩ := k1; exact DataW.trod_lt m _ _ _ hm
  obtain ⟨x1, y1, rfl, wx1, wy1⟩ := openDot (hval 1 35 v1 rfl rfl) h1
  clear hA0 hval0
  refine (walk W a0 n0 c0 R0 F0 T0 hl0 (s0) iR0 iF0 iT0 x1 y1 wx1 wy1).mono fun e W' ⟨he, bel⟩ => ?_
  subst he
  exact ⟨_, rfl, _, _, _, [], _, [], hW', trodAll_mk1 (shut_bool Try.underlying4 _), (trodAll_cons_mk (Below.trod laidOut (by kernel_rfl) (of_decide_eq_true (by kernel_rfl)) k0 bel lt0) (trodAll_cons_mk (Below.trod laidOut (by kernel_rfl) (of_decide_eq_true (by kernel_rfl)) k1 bel lt1) trodAll_mk0)), rfl, bel.frame _, fun h => by cases h⟩

theorem over : Rows.fnExactHasDotRow.holds Try.pinned (OpenSpec.ofChange Rows.fnExactHasDotSpec) :=
  OpenClaim.holds_of_wide 5 Try.f5 rfl rfl rfl rfl rfl rfl rfl ⟨rfl, rfl, rfl, rfl, rfl⟩ rfl rfl rfl rfl rfl (by kernel_rfl) Try.func5 (by kernel_rfl)
    (of_decide_eq_true (by kernel_rfl)) (by unfold Func.isWrapper; first | (rw [if_pos (by decide +kernel)]; kernel_rfl) | (rw [if_neg (by decide +kernel)]; exact ⟨rfl, rfl⟩))
    (fun os started H enc _ => lifted os started H enc)
end Go.Proofs.Ytbimcammjohaoab.fnExactHasDot

namespace Go.Proofs.Ytbimcammjohaoab
theorem hasDotHolds : Rows.FnExactHasDotSaid := fnExactHasDot.over
#print axioms hasDotHolds
end Go.Proofs.Ytbimcammjohaoab
