import Derived.Test.YtbimcammjohaoabEq
import Derived.Test.YtbimcammjohaoabOpen
namespace Go.Proofs.Ytbimcammjohaoab.fnExactContextOk
open Go.ChangeShapes Go.WideShapes Go.ChangeAt Go.RowKit
set_option linter.unusedVariables false
set_option linter.unusedSimpArgs false

set_option maxRecDepth 100000 in
set_option maxHeartbeats 1000000 in
theorem walk (a : Option Addr) (n c : Nat) (R F T : Nat → Int) (w : World) (hn : n ≤ 9223372036854775807) (h : RSeg w a n R F T) :
    Calls Try.prog 3 #[.agg #[.slice a n c]] w fun e w' => e = .returned (.bool true) ∧ Below w.heap.size w w' := by
  have B0 : Below w.heap.size w (w.alloc (.cells #[.slice a n c] 24)) := (Below.refl _ _).alloc (Nat.le_refl _) _
  go_enter Try.func3, Try.ntmps3
  go_wp2_with fail
  refine (szContext a n c 1048576 _ hn (by omega) (by omega)).mono ?_
  rintro e w1 ⟨rfl, b1⟩
  obtain ⟨hc1, hf1⟩ := bcell b1
  have hbox : w1.cell? ⟨w.heap.size, 0, none⟩ = some (.slice a n c) := by rw [hc1 _ _ (by simp)]; simp
  have B1 := keepS B0 b1
  have z1 : w.heap.size < w1.heap.size := by have := b1.size; simp at this; omega
  clear hc1 hf1 b1 B0
  by_cases hl : n ≤ 1048576
  · rw [show szLeft 1048576 n = 1048576 - n from if_neg (by omega)]
    go_wp2_with fail
    refine (toContext a n c R F T _ hl (h.below B1)).mono ?_
    rintro e w2 ⟨g2, hg2, hg2', rfl, s2, b2⟩
    have hbox2 := (b2.cell (p := ⟨w.heap.size, 0, none⟩) z1).trans hbox
    go_wp2_with fail
    refine (specOk _ n n R F T _ hl s2).mono ?_
    rintro e w3 ⟨rfl, b3⟩
    have z2 := b2.size
    have z3 := b3.size
    have hbox3 := (b3.cell (p := ⟨w.heap.size, 0, none⟩) (show w.heap.size < w2.heap.size by omega)).trans hbox2
    have B3 := keepS (keepS B1 b2) b3
    go_wp2_with fail
    refine (toContext a n c R F T _ hl (h.below B3)).mono ?_
    rintro e w4 ⟨g4, hg4, hg4', rfl, s4, b4⟩
    have z4 := b4.size
    have hbox4 := (b4.cell (p := ⟨w.heap.size, 0, none⟩) (show w.heap.size < w3.heap.size by omega)).trans hbox3
    have B4 := keepS B3 b4
    obtain ⟨W5, hW5⟩ : ∃ W5, w4.alloc (.cells #[.slice (some ⟨g4, 0, none⟩) n n] 29) = W5 := ⟨_, rfl⟩
    have b5 : Below w4.heap.size w4 W5 := by rw [← hW5]; exact (Below.refl _ _).alloc (Nat.le_refl _) _
    have z5 : w4.heap.size < W5.heap.size := by rw [← hW5]; simp
    have x5 : W5.cell? ⟨w4.heap.size, 0, none⟩ = some (.slice (some ⟨g4, 0, none⟩) n n) := by rw [← hW5]; simp
    have hbox5 := (b5.cell (p := ⟨w.heap.size, 0, none⟩) (show w.heap.size < w4.heap.size by omega)).trans hbox4
    have s5 := s4.below b5
    have B5 := keepS B4 b5
    clear hbox hbox2 hbox3 hbox4 b2 b3 b4 s2 s4 b5 B1 B3 B4
    go_wp2_with fail
    try rw [hW5]
    clear hW5
    refine (implOk _ n n R F T _ hl s5).mono ?_
    rintro e w6 ⟨rfl, b6⟩
    have z6 := b6.size
    have x6 := (b6.cell (p := ⟨w4.heap.size, 0, none⟩) z5).trans x5
    have hbox6 := (b6.cell (p := ⟨w.heap.size, 0, none⟩) (show w.heap.size < W5.heap.size by omega)).trans hbox5
    have s6 := s5.below b6
    have B6 := keepS B5 b6
    have zx : w4.heap.size < w6.heap.size := by omega
    have zw : w.heap.size < w6.heap.size := by omega
    have HS := hid s6
    have HB := hid B6
    have HH := hid h
    clear x5 hbox5 s5 b6 s6 B5 B6 h
    go_wp2_with fail
    refine wp_region_held_drew (S := fun w' => Below w6.heap.size w6 w' ∧ w'.cell? ⟨w4.heap.size, 0, none⟩ = some (.slice (some ⟨g4, 0, none⟩) n n) ∧ w'.cell? ⟨w.heap.size, 0, none⟩ = some (.slice a n c)) (by kernel_rfl) ⟨(Below.refl _ _).drew, x6, hbox6⟩ (fun hHeld => ?_)
    refine take1 (i := 0) (d := some 22) (v := ?_) (by kernel_rfl) (by kernel_rfl) (by kernel_rfl) (by kernel_rfl) (fun _ _ _ h => h) ?_ hHeld ?_
    rotate_left
    · (intro o ho; simp only [List.getElem?_toArray, List.getElem?_cons_succ, List.getElem?_cons_zero, Option.some.injEq] at ho; subst ho; refine Or.inl ⟨by rfl, ?_⟩; intro w hSw; (try dsimp only at hSw); go_simp; try with_reducible rfl)
    try simp only [Act.put, List.setIfInBounds_toArray, List.set_cons_zero, List.set_cons_succ]
    refine take1 (i := 1) (d := some 23) (v := ?_) (by kernel_rfl) (by kernel_rfl) (by kernel_rfl) (by kernel_rfl) (fun _ _ _ h => h) ?_ hHeld ?_
    rotate_left
    · (intro o ho; simp only [List.getElem?_toArray, List.getElem?_cons_succ, List.getElem?_cons_zero, Option.some.injEq] at ho; subst ho; refine Or.inl ⟨by rfl, ?_⟩; intro w hSw; (try dsimp only at hSw); go_simp; try with_reducible rfl)
    try simp only [Act.put, List.setIfInBounds_toArray, List.set_cons_zero, List.set_cons_succ]
    refine call1 (i := 2) (d := some 24) (by kernel_rfl) (by kernel_rfl) ?_
    intro o ho hod K hK; simp only [List.getElem?_toArray, List.getElem?_cons_succ, List.getElem?_cons_zero, Option.some.injEq] at ho; subst ho
    go_simp
    refine (toContext a n c R F T _ hl (HH.out.below (keepS HB.out hHeld.1))).mono ?_
    rintro e w7 ⟨g7, hg7, hg7', rfl, s7, b7⟩
    have hB := keepS hHeld.1 b7
    refine hK.out _ _ ⟨hB, (hB.cell (p := ⟨w4.heap.size, 0, none⟩) zx).trans x6, (hB.cell (p := ⟨w.heap.size, 0, none⟩) zw).trans hbox6⟩ (fun hHeld => ?_)
    clear hK K
    try simp only [Act.put, List.setIfInBounds_toArray, List.set_cons_zero, List.set_cons_succ]
    refine call1 (i := 3) (d := some 25) (by kernel_rfl) (by kernel_rfl) ?_
    intro o ho hod K hK; simp only [List.getElem?_toArray, List.getElem?_cons_succ, List.getElem?_cons_zero, Option.some.injEq] at ho; subst ho
    go_simp
    refine (eqContext _ _ n n n R F T _ hl (HS.out.below hB) s7).mono ?_
    rintro e w8 ⟨rfl, b8⟩
    have hB8 := keepS hB b8
    refine hK.out _ _ ⟨hB8, (hB8.cell (p := ⟨w4.heap.size, 0, none⟩) zx).trans x6, (hB8.cell (p := ⟨w.heap.size, 0, none⟩) zw).trans hbox6⟩ (fun hHeld => ?_)
    clear hK K
    try simp only [Act.put, List.setIfInBounds_toArray, List.set_cons_zero, List.set_cons_succ]
    refine take1 (i := 4) (d := some 26) (v := ?_) (by kernel_rfl) (by kernel_rfl) (by kernel_rfl) (by kernel_rfl) (fun _ _ _ h => h) ?_ hHeld ?_
    rotate_left
    · (intro o ho; simp only [List.getElem?_toArray, List.getElem?_cons_succ, List.getElem?_cons_zero, Option.some.injEq] at ho; subst ho; refine Or.inl ⟨by rfl, ?_⟩; intro w hSw; (try dsimp only at hSw); go_simp; try with_reducible rfl)
    try simp only [Act.put, List.setIfInBounds_toArray, List.set_cons_zero, List.set_cons_succ]
    refine wpAnyH_done (by kernel_rfl) ?_ _
    have HZ := hid (keepS HB.out hB8)
    clear hHeld hB hB8 b7 b8 s7
    go_wp2_with fail
    go_ret
    exact ⟨rfl, HZ.out⟩
  · rw [show szLeft 1048576 n = -1 from if_pos (by omega)]
    have HB := hid B1
    clear B1
    go_wp2_with fail
    go_ret
    exact ⟨rfl, HB.out⟩

theorem own : ownKnob Try.prog.godebug = none := by kernel_rfl
theorem laidOut : laidOutB Try.prog = true := by kernel_rfl

set_option maxRecDepth 100000 in
theorem lifted (os : Os) (started : os.Started) (H : Type) (enc : TypeId × Value → H) :
    ReturnsInHanded {} Try.checked os 3 .any (Rows.fnExactContextOkSpec.pre6 enc Try.prog Try.f3 Rows.fnExactContextOkRow.domain false) (Rows.fnExactContextOkSpec.post enc Try.prog Try.f3 false true false false) := by
  refine returnsInHanded_of_change (C := Try.checked) own started (by kernel_rfl) Try.func3
    (ChangeSpec.witness6 (enc := enc) (C := Try.checked) false ⟨#[], #[.agg #[.slice none 0 0]], []⟩ 8 (by kernel_rfl) (by kernel_rfl) (by kernel_rfl) (by kernel_rfl)) ?_
  intro W base args ds gs before hval0 hW hcnd _
  have hval : ∀ (j : Nat) t v, Try.f3.params[j]? = some t → args[j]? = some v → Value.okWide Try.prog W .any base t v := hval0
  have hW' := hW
  obtain ⟨p, q, hA0, hV, rfl, hfz, hnd⟩ := hW
  have hA : DataW.TrodAll enc Try.prog W 0 (fun _ => true) true Try.f3.params.toList args.toList ds p := hA0
  rw [Try.params3] at hA hval
  obtain ⟨v0, vs0, d0, ds0, p0, q0, hargs, rfl, rfl, h0, r0⟩ := trodAll_cons hA
  obtain ⟨rfl, rfl, rfl⟩ := trodAll_nil r0
  obtain rfl : args = #[v0] := by cases args; simp_all
  obtain ⟨rfl, rfl⟩ := trodVars_none hV
  have k0 := h0
  have lt0 : ∀ x ∈ p0, x.block < W.heap.size := by obtain ⟨m, hm⟩ := k0; exact DataW.trod_lt m _ _ _ hm
  obtain ⟨a0, len0, cap0, R0, F0, T0, rfl, hl0, w0, _, _, _⟩ := openCtx (hval 0 24 v0 rfl rfl) h0
  clear hA0 hval0
  refine (walk a0 len0 cap0 R0 F0 T0 W hl0 w0).mono fun e W' ⟨he, bel⟩ => ?_
  subst he
  exact ⟨_, rfl, _, _, _, [], _, [], hW', trodAll_mk1 (shut_bool Try.underlying4 _), (trodAll_cons_mk (Below.trod laidOut (by kernel_rfl) (of_decide_eq_true (by kernel_rfl)) k0 bel lt0) trodAll_mk0), rfl, bel.frame _, fun h => by cases h⟩

theorem over : Rows.fnExactContextOkRow.holds Try.pinned (OpenSpec.ofChange Rows.fnExactContextOkSpec) :=
  OpenClaim.holds_of_wide 3 Try.f3 rfl rfl rfl rfl rfl rfl rfl ⟨rfl, rfl, rfl, rfl, rfl⟩ rfl rfl rfl rfl rfl (by kernel_rfl) Try.func3 (by kernel_rfl)
    (of_decide_eq_true (by kernel_rfl)) (by unfold Func.isWrapper; first | (rw [if_pos (by decide +kernel)]; kernel_rfl) | (rw [if_neg (by decide +kernel)]; exact ⟨rfl, rfl⟩))
    (fun os started H enc _ => lifted os started H enc)
end Go.Proofs.Ytbimcammjohaoab.fnExactContextOk

namespace Go.Proofs.Ytbimcammjohaoab
theorem contextOkHolds : Rows.FnExactContextOkSaid := fnExactContextOk.over
#print axioms contextOkHolds
end Go.Proofs.Ytbimcammjohaoab
