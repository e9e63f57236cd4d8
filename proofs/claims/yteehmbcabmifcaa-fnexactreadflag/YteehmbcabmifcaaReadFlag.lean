import Derived.Test.YteehmbcabmifcaaTrh
namespace Go.Proofs.Yteehmbcabmifcaa.fnExactReadFlag
open Go.ChangeShapes Go.WideShapes Go.ChangeAt Go.RowKit
set_option linter.unusedVariables false
set_option linter.unusedSimpArgs false

set_option maxRecDepth 100000 in
theorem openPath {H : Type} {enc : TypeId × Value → H} {W : World} {r : Reach} {b0 base : Nat} {spare : Nat → Bool} {held : Bool} {v : Value} {d : DataW H} {q : List MemPlace}
    (hval : Value.okWide Try.prog W r b0 28 v) (h : DataW.Trod enc Try.prog W base spare held 28 v d q) :
    ∃ a p c, v = .slice a p.length c ∧ SSeg W a p ∧ PBig p := by
  obtain ⟨a0, len0, cap0, rfl⟩ := okWide_slice Try.underlying28 hval
  obtain ⟨fuel, hf⟩ := h
  obtain ⟨a, p, c, hcs, h1, h2⟩ := openStrs hf
  simp [Value.cells] at hcs
  obtain ⟨rfl, rfl, rfl⟩ := hcs
  exact ⟨_, p, _, rfl, h1, h2⟩

set_option maxRecDepth 100000 in
set_option maxHeartbeats 1000000 in
theorem walk (a : Option Addr) (c : Nat) (l : List Lf) (x : Option Addr) (n d : Nat) (R F T : Nat → Int) (p : List ByteArray) (pa : Option Addr) (pc : Nat) (w : World) (hn : l.length ≤ 9223372036854775807) (hb : ∀ i, LfBig (gL l i)) (hi : ∀ i, LfI (gL l i)) (hm : n ≤ 9223372036854775807) (hpb : PBig p) (h : LSeg w a l) (h' : RSeg w x n R F T) (hs : SSeg w pa p) :
    Calls Try.prog 3 #[.agg #[.slice a l.length c, .slice x n d], .slice pa p.length pc] w fun e w' => e = .returned (.bool true) ∧ Below w.heap.size w w' := by
  obtain ⟨W, hW⟩ : ∃ W, w.alloc (.cells #[.slice a l.length c, .slice x n d] 27) = W := ⟨_, rfl⟩
  have b0 : Below w.heap.size w W := by rw [← hW]; exact (Below.refl _ _).alloc (Nat.le_refl _) _
  have B0 : Bx2 W w.heap.size (.slice a l.length c) (.slice x n d) := by rw [← hW]; exact Bx2.made _ _ _ _
  have k0 := B0.c0
  have l0 := B0.c1
  have HSZ := hid (szStateC a c l x n d 1048576 W (by omega) (by omega) hn hm hb (h.below b0))
  have HL := hid h
  have HR := hid h'
  have HS := hid hs
  have HB0 := hid b0
  have HBx := hid B0
  have HPB := hid hpb
  clear h h' hs b0 hb B0 hpb
  go_enter Try.func3, Try.ntmps3
  go_wp2_with fail
  try rw [hW]
  clear hW
  refine HSZ.out.mono ?_
  rintro e w1 ⟨⟨k', rfl, hk0, hk1, hsm⟩, b1⟩
  have HBx1 := hid (HBx.out.below b1 HBx.out.lt)
  have HB1 := hid (keepS HB0.out b1)
  have HSM := hid hsm
  clear hsm b1 HSZ HB0 k0 l0 HBx
  by_cases hneg : k' < 0
  · have d0 : decide (k' < 0) = true := by simpa using hneg
    clear HSM
    go_wp2_with fail
    go_ret
    exact ⟨rfl, HB1.out⟩
  · have d0 : decide (k' < 0) = false := by simpa using hneg
    obtain ⟨⟨hl, hlf⟩, hr⟩ := HSM.out (by omega)
    have hp : LBd l := fun i => (hlf i).1.1
    have HZ := hid (szStrings pa pc p k' w1 (by omega) (by omega) HPB.out (HS.out.below HB1.out))
    clear HSM hlf
    go_wp2_with fail
    refine HZ.out.mono ?_
    rintro e w2 ⟨⟨k'', rfl, hk2, hk3, hsm⟩, rfl⟩
    have HSM := hid hsm
    clear hsm HZ d0
    by_cases hneg2 : k'' < 0
    · have d0 : decide (k'' < 0) = true := by simpa using hneg2
      clear HSM
      go_wp2_with fail
      go_ret
      exact ⟨rfl, HB1.out⟩
    have d0 : decide (k'' < 0) = false := by simpa using hneg2
    have hps := HSM.out (by omega)
    have hpl := hps.1
    have HPS := hid hps
    have k0 := HBx1.out.c0
    have l0 := HBx1.out.c1
    clear HSM hps
    go_wp2_with fail
    refine (toStateC a c l x n d R F T w2 hl hp hr (HL.out.below HB1.out) (HR.out.below HB1.out)).mono ?_
    rintro e w3 ⟨g2, h2, _, _, _, _, rfl, s2, r2, b2⟩
    have HB2 := hid (keepS HB1.out b2)
    have HS2 := hid s2
    have HR2 := hid r2
    have HBx2 := hid (HBx1.out.below b2 HBx1.out.lt)
    clear b2 s2 r2 k0 l0 HBx1
    go_wp2_with fail
    refine (toStrings pa pc p w3 hpl (HS.out.below HB2.out)).mono ?_
    rintro e w4 ⟨rfl, s3, b3, _, _⟩
    have HB3 := hid (keepS HB2.out b3)
    have HSP := hid (specReadFlag (some ⟨g2, 0, none⟩) l.length l (some ⟨h2, 0, none⟩) n n R F T p (some ⟨w3.heap.size, 0, none⟩) w4 hl hp hr hpl (HS2.out.below b3).cap (HR2.out.below b3) s3)
    have HBx3 := hid (HBx2.out.below b3 HBx2.out.lt)
    obtain ⟨Y, hY⟩ : ∃ Y, yes (RfOk R F T n l p) = Y := ⟨_, rfl⟩
    have HY := hid hY
    rw [hY] at HSP
    clear hY b3 s3 HS2 HR2 HBx2
    go_wp2_with fail
    refine HSP.out.mono ?_
    rintro e w5 ⟨rfl, b5⟩
    have HB5 := hid (keepS HB3.out b5)
    have HBx5 := hid (HBx3.out.below b5 HBx3.out.lt)
    have k5 := HBx5.out.c0
    have l5 := HBx5.out.c1
    clear b5 HSP HBx3
    go_wp2_with fail
    refine (toStateC a c l x n d R F T w5 hl hp hr (HL.out.below HB5.out) (HR.out.below HB5.out)).mono ?_
    rintro e w6 ⟨g4, h4, _, _, _, _, rfl, s4, r4, b4⟩
    obtain ⟨W5, hW5⟩ : ∃ W5, w6.alloc (.cells #[.slice (some ⟨g4, 0, none⟩) l.length l.length, .slice (some ⟨h4, 0, none⟩) n n] 37) = W5 := ⟨_, rfl⟩
    have b5 : Below w6.heap.size w6 W5 := by rw [← hW5]; exact (Below.refl _ _).alloc (Nat.le_refl _) _
    have X5 : Bx2 W5 w6.heap.size (.slice (some ⟨g4, 0, none⟩) l.length l.length) (.slice (some ⟨h4, 0, none⟩) n n) := by rw [← hW5]; exact Bx2.made _ _ _ _
    have HX5 := hid X5
    have HS5 := hid (s4.seg.below b5)
    have HR5 := hid (r4.below b5)
    have HB6 := hid (keepS HB5.out (keepS b4 b5))
    have HBx6 := hid (HBx5.out.below (keepS b4 b5) HBx5.out.lt)
    clear b4 s4 r4 b5 X5 k5 l5 HBx5
    go_wp2_with fail
    try rw [hW5]
    clear hW5
    refine (toStrings pa pc p W5 hpl (HS.out.below HB6.out)).mono ?_
    rintro e w7 ⟨rfl, s7, b7, _, _⟩
    have HS7 := hid s7
    have HB7 := hid (keepS HB6.out b7)
    have HBx7 := hid (HBx6.out.below b7 HBx6.out.lt)
    have HX7 := hid (HX5.out.below b7 HX5.out.lt)
    have HL7 := hid (HS5.out.below b7)
    have HR7 := hid (HR5.out.below b7)
    have x7 := HX7.out.c0
    have y7 := HX7.out.c1
    clear b7 s7 HBx6 HX5 HS5 HR5
    go_wp2_with fail
    refine (implReadFlag _ l.length l _ n n R F T p (some ⟨W5.heap.size, 0, none⟩) p.length w7 hl hp hi hr hpl HL7.out HR7.out HS7.out).mono ?_
    rintro e w8 ⟨rfl, b8⟩
    rw [HY.out]
    have HB8 := hid (keepS HB7.out b8)
    have HBx8 := hid (HBx7.out.below b8 HBx7.out.lt)
    have HX8 := hid (HX7.out.below b8 HX7.out.lt)
    have HL8 := hid (HL7.out.below b8)
    have HR8 := hid (HR7.out.below b8)
    have HS8 := hid (HS7.out.below b8)
    have dY : (Y != Y) = false := by simp
    have dY2 : (Y == Y) = true := by simp
    clear b8 x7 y7 HBx7 HX7 HL7 HR7 HS7 HY
    go_wp2_with fail
    have HCS : Hid (∀ w', Below w8.heap.size w8 w' → (Below w8.heap.size w8 w' ∧ w'.cell? ⟨w6.heap.size, 0, none⟩ = some (.slice (some ⟨g4, 0, none⟩) l.length l.length) ∧ w'.cell? ⟨w6.heap.size, 1, none⟩ = some (.slice (some ⟨h4, 0, none⟩) n n) ∧ w'.cell? ⟨w.heap.size, 0, none⟩ = some (.slice a l.length c) ∧ w'.cell? ⟨w.heap.size, 1, none⟩ = some (.slice x n d))) := hid (fun w' hB => by
      have X := HX8.out.below hB HX8.out.lt
      have Z := HBx8.out.below hB HBx8.out.lt
      exact ⟨hB, X.c0, X.c1, Z.c0, Z.c1⟩)
    refine wp_region_held_drew (S := fun w' => Below w8.heap.size w8 w' ∧ w'.cell? ⟨w6.heap.size, 0, none⟩ = some (.slice (some ⟨g4, 0, none⟩) l.length l.length) ∧ w'.cell? ⟨w6.heap.size, 1, none⟩ = some (.slice (some ⟨h4, 0, none⟩) n n) ∧ w'.cell? ⟨w.heap.size, 0, none⟩ = some (.slice a l.length c) ∧ w'.cell? ⟨w.heap.size, 1, none⟩ = some (.slice x n d)) (by kernel_rfl) (HCS.out _ (Below.refl _ _).drew) (fun hHeld => ?_)
    refine take1 (i := 0) (d := some 35) (v := ?_) (by kernel_rfl) (by kernel_rfl) (by kernel_rfl) (by kernel_rfl) (fun _ _ _ h => h) ?_ hHeld ?_
    rotate_left
    · (intro o ho; simp only [List.getElem?_toArray, List.getElem?_cons_succ, List.getElem?_cons_zero, Option.some.injEq] at ho; subst ho; refine Or.inl ⟨by rfl, ?_⟩; intro w hSw; (try dsimp only at hSw); go_simp; try with_reducible rfl)
    try simp only [Act.put, List.setIfInBounds_toArray, List.set_cons_zero, List.set_cons_succ]
    refine take1 (i := 1) (d := some 36) (v := ?_) (by kernel_rfl) (by kernel_rfl) (by kernel_rfl) (by kernel_rfl) (fun _ _ _ h => h) ?_ hHeld ?_
    rotate_left
    · (intro o ho; simp only [List.getElem?_toArray, List.getElem?_cons_succ, List.getElem?_cons_zero, Option.some.injEq] at ho; subst ho; refine Or.inl ⟨by rfl, ?_⟩; intro w hSw; (try dsimp only at hSw); go_simp; try with_reducible rfl)
    try simp only [Act.put, List.setIfInBounds_toArray, List.set_cons_zero, List.set_cons_succ]
    refine call1 (i := 2) (d := some 37) (by kernel_rfl) (by kernel_rfl) ?_
    intro o ho hod K hK; simp only [List.getElem?_toArray, List.getElem?_cons_succ, List.getElem?_cons_zero, Option.some.injEq] at ho; subst ho
    go_simp
    refine (toStateC a c l x n d R F T _ hl hp hr (HL.out.below (keepS HB8.out hHeld.1)) (HR.out.below (keepS HB8.out hHeld.1))).mono ?_
    rintro e w9 ⟨g7, h7, _, _, _, _, rfl, s9, r9, b9⟩
    have hB9 := keepS hHeld.1 b9
    refine hK.out _ _ (HCS.out _ hB9) (fun hHeld => ?_)
    clear hK K
    try simp only [Act.put, List.setIfInBounds_toArray, List.set_cons_zero, List.set_cons_succ]
    refine call1 (i := 3) (d := some 38) (by kernel_rfl) (by kernel_rfl) ?_
    intro o ho hod K hK; simp only [List.getElem?_toArray, List.getElem?_cons_succ, List.getElem?_cons_zero, Option.some.injEq] at ho; subst ho
    go_simp
    refine (eqStateC _ _ l.length l.length l _ _ n n n R F T _ hl hp hr (HL8.out.below hB9) s9.seg (HR8.out.below hB9) r9).mono ?_
    rintro e w10 ⟨rfl, b10⟩
    have hB10 := keepS hB9 b10
    refine hK.out _ _ (HCS.out _ hB10) (fun hHeld => ?_)
    clear hK K
    try simp only [Act.put, List.setIfInBounds_toArray, List.set_cons_zero, List.set_cons_succ]
    refine take1 (i := 4) (d := some 39) (v := ?_) (by kernel_rfl) (by kernel_rfl) (by kernel_rfl) (by kernel_rfl) (fun _ _ _ h => h) ?_ hHeld ?_
    rotate_left
    · (intro o ho; simp only [List.getElem?_toArray, List.getElem?_cons_succ, List.getElem?_cons_zero, Option.some.injEq] at ho; subst ho; refine Or.inl ⟨by rfl, ?_⟩; intro w hSw; (try dsimp only at hSw); go_simp; try with_reducible rfl)
    try simp only [Act.put, List.setIfInBounds_toArray, List.set_cons_zero, List.set_cons_succ]
    refine wpAnyH_done (by kernel_rfl) ?_ _
    have HZ := hid (keepS HB8.out hB10)
    have HS10 := hid (HS8.out.below hB10)
    clear hHeld hB9 hB10 b9 b10 s9 r9 HCS
    go_wp2_with fail
    refine (toStrings pa pc p w10 hpl (HS.out.below HZ.out)).mono ?_
    rintro e w11 ⟨rfl, s11, b11, _, _⟩
    have HE := hid (eqStrings (some ⟨W5.heap.size, 0, none⟩) (some ⟨w10.heap.size, 0, none⟩) p.length p.length p w11 hpl (HS10.out.below b11) s11)
    have HZ2 := hid (keepS HZ.out b11)
    clear s11 b11
    go_wp2_with fail
    refine HE.out.mono ?_
    rintro e w12 ⟨rfl, b12⟩
    have HZ3 := hid (keepS HZ2.out b12)
    clear b12 HE
    go_wp2_with fail
    go_ret
    exact ⟨rfl, HZ3.out⟩

theorem own : ownKnob Try.prog.godebug = none := by kernel_rfl
theorem laidOut : laidOutB Try.prog = true := by kernel_rfl

set_option maxRecDepth 100000 in
theorem lifted (os : Os) (started : os.Started) (H : Type) (enc : TypeId × Value → H) :
    ReturnsInHanded {} Try.checked os 3 .any (Rows.fnExactReadFlagSpec.pre6 enc Try.prog Try.f3 Rows.fnExactReadFlagRow.domain false) (Rows.fnExactReadFlagSpec.post enc Try.prog Try.f3 false true false false) := by
  refine returnsInHanded_of_change (C := Try.checked) own started (by kernel_rfl) Try.func3
    (ChangeSpec.witness6 (enc := enc) (C := Try.checked) false ⟨#[], #[.agg #[.slice none 0 0, .slice none 0 0], .slice none 0 0], []⟩ 8 (by kernel_rfl) (by kernel_rfl) (by kernel_rfl) (by kernel_rfl)) ?_
  intro W base args ds gs before hval0 hW hcnd _
  have hval : ∀ (j : Nat) t v, Try.f3.params[j]? = some t → args[j]? = some v → Value.okWide Try.prog W .any base t v := hval0
  have hW' := hW
  obtain ⟨p, q, hA0, hV, rfl, hfz, hnd⟩ := hW
  have hA : DataW.TrodAll enc Try.prog W 0 (fun _ => true) true Try.f3.params.toList args.toList ds p := hA0
  rw [Try.params3] at hA hval
  obtain ⟨v0, vs0, d0, ds0, p0, q0, hargs, rfl, rfl, h0, r0⟩ := trodAll_cons hA
  obtain ⟨v1, vs1, d1, ds1, p1, q1, hargs1, rfl, rfl, h1, r1⟩ := trodAll_cons r0
  obtain ⟨rfl, rfl, rfl⟩ := trodAll_nil r1
  subst hargs1
  obtain rfl : args = #[v0, v1] := by cases args; simp_all
  obtain ⟨rfl, rfl⟩ := trodVars_none hV
  have k0 := h0
  have k1 := h1
  have lt0 : ∀ x ∈ p0, x.block < W.heap.size := by obtain ⟨m, hm⟩ := k0; exact DataW.trod_lt m _ _ _ hm
  have lt1 : ∀ x ∈ p1, x.block < W.heap.size := by obtain ⟨m, hm⟩ := k1; exact DataW.trod_lt m _ _ _ hm
  obtain ⟨a0, c0, l0, x0, n0, e0, R0, F0, T0, rfl, hl0, w0, hb0, hi0, hn0, w1, _, _, _⟩ := openState (hval 0 27 v0 rfl rfl) h0
  obtain ⟨pa, p, pc, rfl, w2, hpb⟩ := openPath (hval 1 28 v1 rfl rfl) h1
  clear hA0 hval0
  refine (walk a0 c0 l0 x0 n0 e0 R0 F0 T0 p pa pc W hl0 hb0 hi0 hn0 hpb w0 w1 w2).mono fun e W' ⟨he, bel⟩ => ?_
  subst he
  exact ⟨_, rfl, _, _, _, [], _, [], hW', trodAll_mk1 (shut_bool Try.underlying4 _), (trodAll_cons_mk (Below.trod laidOut (by kernel_rfl) (of_decide_eq_true (by kernel_rfl)) k0 bel lt0) (trodAll_cons_mk (Below.trod laidOut (by kernel_rfl) (of_decide_eq_true (by kernel_rfl)) k1 bel lt1) trodAll_mk0)), rfl, bel.frame _, fun h => by cases h⟩

theorem over : Rows.fnExactReadFlagRow.holds Try.pinned (OpenSpec.ofChange Rows.fnExactReadFlagSpec) :=
  OpenClaim.holds_of_wide 3 Try.f3 rfl rfl rfl rfl rfl rfl rfl ⟨rfl, rfl, rfl, rfl, rfl⟩ rfl rfl rfl rfl rfl (by kernel_rfl) Try.func3 (by kernel_rfl)
    (of_decide_eq_true (by kernel_rfl)) (by unfold Func.isWrapper; first | (rw [if_pos (by decide +kernel)]; kernel_rfl) | (rw [if_neg (by decide +kernel)]; exact ⟨rfl, rfl⟩))
    (fun os started H enc _ => lifted os started H enc)
end Go.Proofs.Yteehmbcabmifcaa.fnExactReadFlag

namespace Go.Proofs.Yteehmbcabmifcaa
theorem readFlagHolds : Rows.FnExactReadFlagSaid := fnExactReadFlag.over
#print axioms readFlagHolds
end Go.Proofs.Yteehmbcabmifcaa
