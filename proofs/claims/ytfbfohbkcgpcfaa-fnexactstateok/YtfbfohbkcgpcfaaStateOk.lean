import Derived.Test.YtfbfohbkcgpcfaaStw
namespace Go.Proofs.Ytfbfohbkcgpcfaa.fnExactStateOk
open Go.ChangeShapes Go.WideShapes Go.ChangeAt Go.RowKit
set_option linter.unusedVariables false
set_option linter.unusedSimpArgs false

set_option maxRecDepth 100000 in
set_option maxHeartbeats 1000000 in
theorem walk (a : Option Addr) (c : Nat) (l : List Lf) (x : Option Addr) (n d : Nat) (R F T : Nat → Int) (w : World) (hn : l.length ≤ 9223372036854775807) (hb : ∀ i, LfBig (gL l i)) (hi : ∀ i, LfI (gL l i)) (hm : n ≤ 9223372036854775807) (h : LSeg w a l) (h' : RSeg w x n R F T) :
    Calls Try.prog 3 #[.agg #[.slice a l.length c, .slice x n d]] w fun e w' => e = .returned (.bool true) ∧ Below w.heap.size w w' := by
  obtain ⟨W, hW⟩ : ∃ W, w.alloc (.cells #[.slice a l.length c, .slice x n d] 27) = W := ⟨_, rfl⟩
  have b0 : Below w.heap.size w W := by rw [← hW]; exact (Below.refl _ _).alloc (Nat.le_refl _) _
  have z0 : w.heap.size < W.heap.size := by rw [← hW]; simp
  have k0 : W.cell? ⟨w.heap.size, 0, none⟩ = some (.slice a l.length c) := by rw [← hW]; simp
  have l0 : W.cell? ⟨w.heap.size, 1, none⟩ = some (.slice x n d) := by rw [← hW]; simp
  have HSZ := hid (szStateC a c l x n d 1048576 W (by omega) (by omega) hn hm hb (h.below b0))
  have HL := hid h
  have HR := hid h'
  have HB0 := hid b0
  clear h h' b0 hb
  go_enter Try.func3, Try.ntmps3
  go_wp2_with fail
  try rw [hW]
  clear hW
  refine HSZ.out.mono ?_
  rintro e w1 ⟨⟨k', rfl, hk0, hk1, hsm⟩, b1⟩
  have k1 := (b1.cell (p := ⟨w.heap.size, 0, none⟩) z0).trans k0
  have l1 := (b1.cell (p := ⟨w.heap.size, 1, none⟩) z0).trans l0
  have z1 : w.heap.size < w1.heap.size := Nat.lt_of_lt_of_le z0 b1.size
  have HB1 := hid (keepS HB0.out b1)
  have HSM := hid hsm
  clear hsm b1 HSZ HB0 k0 l0 z0
  by_cases hneg : k' < 0
  · have d0 : decide (k' < 0) = true := by simpa using hneg
    clear HSM
    go_wp2_with fail
    go_ret
    exact ⟨rfl, HB1.out⟩
  · have d0 : decide (k' < 0) = false := by simpa using hneg
    obtain ⟨⟨hl, hlf⟩, hr⟩ := HSM.out (by omega)
    have hp : LBd l := fun i => (hlf i).1.1
    clear HSM hlf
    go_wp2_with fail
    refine (toStateC a c l x n d R F T w1 hl hp hr (HL.out.below HB1.out) (HR.out.below HB1.out)).mono ?_
    rintro e w2 ⟨g2, h2, _, _, _, _, rfl, s2, r2, b2⟩
    have k2 := (b2.cell (p := ⟨w.heap.size, 0, none⟩) z1).trans k1
    have l2 := (b2.cell (p := ⟨w.heap.size, 1, none⟩) z1).trans l1
    have z2 : w.heap.size < w2.heap.size := Nat.lt_of_lt_of_le z1 b2.size
    have HB2 := hid (keepS HB1.out b2)
    have HSP := hid (specStateOk (some ⟨g2, 0, none⟩) l.length l (some ⟨h2, 0, none⟩) n n R F T w2 hl hp hr s2.cap r2)
    clear b2 s2 r2 k1 l1 HB1 z1
    go_wp2_with fail
    refine HSP.out.mono ?_
    rintro e w3 ⟨rfl, b3⟩
    have k3 := (b3.cell (p := ⟨w.heap.size, 0, none⟩) z2).trans k2
    have l3 := (b3.cell (p := ⟨w.heap.size, 1, none⟩) z2).trans l2
    have z3 : w.heap.size < w3.heap.size := Nat.lt_of_lt_of_le z2 b3.size
    have HB3 := hid (keepS HB2.out b3)
    clear b3 HSP k2 l2 HB2 z2
    obtain ⟨Y, hY⟩ : ∃ Y, yes (StOk R F T n l) = Y := ⟨_, rfl⟩
    have HY := hid hY
    rw [hY]
    clear hY
    go_wp2_with fail
    refine (toStateC a c l x n d R F T w3 hl hp hr (HL.out.below HB3.out) (HR.out.below HB3.out)).mono ?_
    rintro e w4 ⟨g4, h4, _, _, _, _, rfl, s4, r4, b4⟩
    have k4 := (b4.cell (p := ⟨w.heap.size, 0, none⟩) z3).trans k3
    have l4 := (b4.cell (p := ⟨w.heap.size, 1, none⟩) z3).trans l3
    have z4 : w.heap.size < w4.heap.size := Nat.lt_of_lt_of_le z3 b4.size
    have HB4 := hid (keepS HB3.out b4)
    obtain ⟨W5, hW5⟩ : ∃ W5, w4.alloc (.cells #[.slice (some ⟨g4, 0, none⟩) l.length l.length, .slice (some ⟨h4, 0, none⟩) n n] 35) = W5 := ⟨_, rfl⟩
    have b5 : Below w4.heap.size w4 W5 := by rw [← hW5]; exact (Below.refl _ _).alloc (Nat.le_refl _) _
    have z5 : w4.heap.size < W5.heap.size := by rw [← hW5]; simp
    have x5 : W5.cell? ⟨w4.heap.size, 0, none⟩ = some (.slice (some ⟨g4, 0, none⟩) l.length l.length) := by rw [← hW5]; simp
    have y5 : W5.cell? ⟨w4.heap.size, 1, none⟩ = some (.slice (some ⟨h4, 0, none⟩) n n) := by rw [← hW5]; simp
    have k5 := (b5.cell (p := ⟨w.heap.size, 0, none⟩) z4).trans k4
    have l5 := (b5.cell (p := ⟨w.heap.size, 1, none⟩) z4).trans l4
    have HS5 := hid (s4.seg.below b5)
    have HR5 := hid (r4.below b5)
    have HB5 := hid (keepS HB4.out b5)
    clear b4 s4 r4 b5 k3 l3 k4 l4 HB3 HB4 z3
    go_wp2_with fail
    try rw [hW5]
    clear hW5
    refine (implStateOk _ l.length l _ n n R F T W5 hl hp hi hr HS5.out HR5.out).mono ?_
    rintro e w6 ⟨rfl, b6⟩
    rw [HY.out]
    have x6 := (b6.cell (p := ⟨w4.heap.size, 0, none⟩) z5).trans x5
    have y6 := (b6.cell (p := ⟨w4.heap.size, 1, none⟩) z5).trans y5
    have k6 := (b6.cell (p := ⟨w.heap.size, 0, none⟩) (show w.heap.size < W5.heap.size by omega)).trans k5
    have l6 := (b6.cell (p := ⟨w.heap.size, 1, none⟩) (show w.heap.size < W5.heap.size by omega)).trans l5
    have HS6 := hid (HS5.out.below b6)
    have HR6 := hid (HR5.out.below b6)
    have HB6 := hid (keepS HB5.out b6)
    have zx : w4.heap.size < w6.heap.size := Nat.lt_of_lt_of_le z5 b6.size
    have zw : w.heap.size < w6.heap.size := by omega
    have dY : (Y != Y) = false := by simp
    have dY2 : (Y == Y) = true := by simp
    clear b6 x5 y5 k5 l5 HS5 HR5 HB5 HY
    go_wp2_with fail
    have HCS : Hid (∀ w', Below w6.heap.size w6 w' → (Below w6.heap.size w6 w' ∧ w'.cell? ⟨w4.heap.size, 0, none⟩ = some (.slice (some ⟨g4, 0, none⟩) l.length l.length) ∧ w'.cell? ⟨w4.heap.size, 1, none⟩ = some (.slice (some ⟨h4, 0, none⟩) n n) ∧ w'.cell? ⟨w.heap.size, 0, none⟩ = some (.slice a l.length c) ∧ w'.cell? ⟨w.heap.size, 1, none⟩ = some (.slice x n d))) := hid (fun w' hB => ⟨hB, (hB.cell (p := ⟨w4.heap.size, 0, none⟩) zx).trans x6, (hB.cell (p := ⟨w4.heap.size, 1, none⟩) zx).trans y6, (hB.cell (p := ⟨w.heap.size, 0, none⟩) zw).trans k6, (hB.cell (p := ⟨w.heap.size, 1, none⟩) zw).trans l6⟩)
    refine wp_region_held_drew (S := fun w' => Below w6.heap.size w6 w' ∧ w'.cell? ⟨w4.heap.size, 0, none⟩ = some (.slice (some ⟨g4, 0, none⟩) l.length l.length) ∧ w'.cell? ⟨w4.heap.size, 1, none⟩ = some (.slice (some ⟨h4, 0, none⟩) n n) ∧ w'.cell? ⟨w.heap.size, 0, none⟩ = some (.slice a l.length c) ∧ w'.cell? ⟨w.heap.size, 1, none⟩ = some (.slice x n d)) (by kernel_rfl) (HCS.out _ (Below.refl _ _).drew) (fun hHeld => ?_)
    refine take1 (i := 0) (d := some 22) (v := ?_) (by kernel_rfl) (by kernel_rfl) (by kernel_rfl) (by kernel_rfl) (fun _ _ _ h => h) ?_ hHeld ?_
    rotate_left
    · (intro o ho; simp only [List.getElem?_toArray, List.getElem?_cons_succ, List.getElem?_cons_zero, Option.some.injEq] at ho; subst ho; refine Or.inl ⟨by rfl, ?_⟩; intro w hSw; (try dsimp only at hSw); go_simp; try with_reducible rfl)
    try simp only [Act.put, List.setIfInBounds_toArray, List.set_cons_zero, List.set_cons_succ]
    refine take1 (i := 1) (d := some 23) (v := ?_) (by kernel_rfl) (by kernel_rfl) (by kernel_rfl) (by kernel_rfl) (fun _ _ _ h => h) ?_ hHeld ?_
    rotate_left
    · (intro o ho; simp only [List.getElem?_toArray, List.getElem?_cons_succ, List.getElem?_cons_zero, Option.some.injEq] at ho; subst ho; refine Or.inl ⟨by rfl, ?_⟩; intro w hSw; (try dsimp only at hSw); go_simp; try with_reducible rfl)
    try simp only [Act.put, List.setIfInBounds_toArray, List.set_cons_zero, List.set_cons_succ]
    refine call1 (i := 2) (d := some 24) (by kernel_rfl) (by kernel_rfl) ?_
    intro o ho hod K hK; simp only [List.getElem?_toArray, List.getElem?_cons_succ, List.getElem?_cons_zero, Option.some.injEq] at ho; subst ho
    go_simp
    refine (toStateC a c l x n d R F T _ hl hp hr (HL.out.below (keepS HB6.out hHeld.1)) (HR.out.below (keepS HB6.out hHeld.1))).mono ?_
    rintro e w7 ⟨g7, h7, _, _, _, _, rfl, s7, r7, b7⟩
    have hB7 := keepS hHeld.1 b7
    refine hK.out _ _ (HCS.out _ hB7) (fun hHeld => ?_)
    clear hK K
    try simp only [Act.put, List.setIfInBounds_toArray, List.set_cons_zero, List.set_cons_succ]
    refine call1 (i := 3) (d := some 25) (by kernel_rfl) (by kernel_rfl) ?_
    intro o ho hod K hK; simp only [List.getElem?_toArray, List.getElem?_cons_succ, List.getElem?_cons_zero, Option.some.injEq] at ho; subst ho
    go_simp
    refine (eqStateC _ _ l.length l.length l _ _ n n n R F T _ hl hp hr (HS6.out.below hB7) s7.seg (HR6.out.below hB7) r7).mono ?_
    rintro e w8 ⟨rfl, b8⟩
    have hB8 := keepS hB7 b8
    refine hK.out _ _ (HCS.out _ hB8) (fun hHeld => ?_)
    clear hK K
    try simp only [Act.put, List.setIfInBounds_toArray, List.set_cons_zero, List.set_cons_succ]
    refine take1 (i := 4) (d := some 26) (v := ?_) (by kernel_rfl) (by kernel_rfl) (by kernel_rfl) (by kernel_rfl) (fun _ _ _ h => h) ?_ hHeld ?_
    rotate_left
    · (intro o ho; simp only [List.getElem?_toArray, List.getElem?_cons_succ, List.getElem?_cons_zero, Option.some.injEq] at ho; subst ho; refine Or.inl ⟨by rfl, ?_⟩; intro w hSw; (try dsimp only at hSw); go_simp; try with_reducible rfl)
    try simp only [Act.put, List.setIfInBounds_toArray, List.set_cons_zero, List.set_cons_succ]
    refine wpAnyH_done (by kernel_rfl) ?_ _
    have HZ := hid (keepS HB6.out hB8)
    clear hHeld hB7 hB8 b7 b8 s7 r7 HCS
    go_wp2_with fail
    go_ret
    exact ⟨rfl, HZ.out⟩

theorem own : ownKnob Try.prog.godebug = none := by kernel_rfl
theorem laidOut : laidOutB Try.prog = true := by kernel_rfl

set_option maxRecDepth 100000 in
theorem lifted (os : Os) (started : os.Started) (H : Type) (enc : TypeId × Value → H) :
    ReturnsInHanded {} Try.checked os 3 .any (Rows.fnExactStateOkSpec.pre6 enc Try.prog Try.f3 Rows.fnExactStateOkRow.domain false) (Rows.fnExactStateOkSpec.post enc Try.prog Try.f3 false true false false) := by
  refine returnsInHanded_of_change (C := Try.checked) own started (by kernel_rfl) Try.func3
    (ChangeSpec.witness6 (enc := enc) (C := Try.checked) false ⟨#[], #[.agg #[.slice none 0 0, .slice none 0 0]], []⟩ 8 (by kernel_rfl) (by kernel_rfl) (by kernel_rfl) (by kernel_rfl)) ?_
  intro W base args ds gs before hval0 hW hcnd _
  have hval : ∀ (j : Nat) t v, Try.f3.params[j]? = some t → args[j]? = some v → Value.okWide Try.prog W .any base t v := hval0
  have hW' := hW
  obtain ⟨p, q, hA0, hV, rfl, hfz, hnd⟩ := hW
  have hA : DataW.TrodAll enc Try.prog W 0 (fun _ => true) true Try.f3.params.toList args.toList ds p := hA0
  rw [Try.params3] at hA hval
  obtain ⟨v0, vs0, d0, ds0, p0, q0, hargs, rfl, rfl, h0, r0⟩ := trodAll_cons hA
  obtain ⟨rfl, rfl, rfl⟩ := trodAll_nil r0
  obtain rfl : args = #[v0] := by cases args; simp_all
  obtain ⟨rfl, rfl⟩ := trodVars_none hV
  have k0 := h0
  have lt0 : ∀ x ∈ p0, x.block < W.heap.size := by obtain ⟨m, hm⟩ := k0; exact DataW.trod_lt m _ _ _ hm
  obtain ⟨a0, c0, l0, x0, n0, e0, R0, F0, T0, rfl, hl0, w0, hb0, hi0, hn0, w1, _, _, _⟩ := openState (hval 0 27 v0 rfl rfl) h0
  clear hA0 hval0
  refine (walk a0 c0 l0 x0 n0 e0 R0 F0 T0 W hl0 hb0 hi0 hn0 w0 w1).mono fun e W' ⟨he, bel⟩ => ?_
  subst he
  exact ⟨_, rfl, _, _, _, [], _, [], hW', trodAll_mk1 (shut_bool Try.underlying4 _), (trodAll_cons_mk (Below.trod laidOut (by kernel_rfl) (of_decide_eq_true (by kernel_rfl)) k0 bel lt0) trodAll_mk0), rfl, bel.frame _, fun h => by cases h⟩

theorem over : Rows.fnExactStateOkRow.holds Try.pinned (OpenSpec.ofChange Rows.fnExactStateOkSpec) :=
  OpenClaim.holds_of_wide 3 Try.f3 rfl rfl rfl rfl rfl rfl rfl ⟨rfl, rfl, rfl, rfl, rfl⟩ rfl rfl rfl rfl rfl (by kernel_rfl) Try.func3 (by kernel_rfl)
    (of_decide_eq_true (by kernel_rfl)) (by unfold Func.isWrapper; first | (rw [if_pos (by decide +kernel)]; kernel_rfl) | (rw [if_neg (by decide +kernel)]; exact ⟨rfl, rfl⟩))
    (fun os started H enc _ => lifted os started H enc)
end Go.Proofs.Ytfbfohbkcgpcfaa.fnExactStateOk

namespace Go.Proofs.Ytfbfohbkcgpcfaa
theorem stateOkHolds : Rows.FnExactStateOkSaid := fnExactStateOk.over
#print axioms stateOkHolds
end Go.Proofs.Ytfbfohbkcgpcfaa
