import Derived.Test.YtbimcammjohaoacPutL
namespace Go.Proofs.Ytbimcammjohaoac.fnExactPutContext
open Go.ChangeShapes Go.WideShapes Go.ChangeAt Go.RowKit Go.Maps
set_option linter.unusedVariables false
set_option linter.unusedSimpArgs false

set_option maxRecDepth 100000 in
set_option maxHeartbeats 1000000 in
theorem walk (w : World) (a : Option Addr) (n c : Nat) (R F T : Nat → Int) (hn : n ≤ 9223372036854775807) (h : RSeg w a n R F T) (iR : I64 R) (iF : I64 F) (iT : I64 T) :
    Calls Try.prog 6 #[.agg #[.slice a n c]] w fun e w' => e = .returned (.bool true) ∧ Below w.heap.size w w' := by
  obtain ⟨W0, hW0⟩ : ∃ W0, w.alloc (.cells #[.slice a n c] 37) = W0 := ⟨_, rfl⟩
  have bW : Below w.heap.size w W0 := by rw [← hW0]; exact (Below.refl _ _).alloc (Nat.le_refl _) _
  have hbox : W0.cell? ⟨w.heap.size, 0, none⟩ = some (.slice a n c) := by rw [← hW0]; simp
  have zW : W0.heap.size = w.heap.size + 1 := by rw [← hW0]; simp
  go_enter Try.func6, Try.ntmps6
  go_wp2_with fail
  try rw [hW0]
  clear hW0
  refine (szContext a n c 1048576 _ hn (by omega) (by omega)).mono ?_
  rintro e w1 ⟨rfl, b1⟩
  have z1 := b1.size
  have bx1 := (b1.cell (p := ⟨w.heap.size, 0, none⟩) (show w.heap.size < W0.heap.size by omega)).trans hbox
  have B1 := keepS bW b1
  clear b1 hbox bW
  by_cases hl : n ≤ 1048576
  · rw [show szLeft 1048576 n = 1048576 - n from if_neg (by omega)]
    have HH := hid h
    have HB1 := hid B1
    obtain ⟨ok, hok⟩ : ∃ ok, ctxB R F T n = ok := ⟨_, rfl⟩
    obtain ⟨zs, hzs⟩ : ∃ zs, putZ R F T n = zs := ⟨_, rfl⟩
    have hzl : zs.length ≤ 1000000 := by rw [← hzs]; exact putZ_len R F T n
    have HOK := hid hok
    have HZS := hid hzs
    clear B1 h hok hzs
    go_wp2_with fail
    refine (toContext a n c R F T _ hl (HH.out.below HB1.out)).mono ?_
    rintro e w2 ⟨g2, hg2, hg2', rfl, s2, b2⟩
    have HB2 := hid (keepS HB1.out b2)
    have HS2 := hid s2
    have z2 := b2.size
    have bx2 := (b2.cell (p := ⟨w.heap.size, 0, none⟩) (show w.heap.size < w1.heap.size by omega)).trans bx1
    clear b2 s2 HB1 bx1
    go_wp2_with fail
    refine (specPutA _ n n R F T w2 hl HS2.out).mono ?_
    rintro e w3 ⟨v3, rfl, o3, b3⟩
    rw [HZS.out] at o3
    rw [HOK.out]
    have HB3 := hid (keepS HB2.out b3)
    have HO3 := hid o3
    have z3 := b3.size
    have HV3 : Hid (∀ g, v3.ownBlock = some g → w2.heap.size ≤ g ∧ g < w3.heap.size) := fun g hg => World.ownsRow.lt o3 g hg
    have bx3 := (b3.cell (p := ⟨w.heap.size, 0, none⟩) (show w.heap.size < w2.heap.size by omega)).trans bx2
    clear b3 o3 HB2 HS2 bx2
    go_wp2_with fail
    refine (toContextO a n c R F T _ hl (HH.out.below HB3.out)).mono ?_
    rintro e w4 ⟨g4, hg4, hg4', rfl, s4, b4, xs4, o4⟩
    obtain ⟨W5, hW5⟩ : ∃ W5, w4.alloc (.cells #[.slice (some ⟨g4, 0, none⟩) n n] 41) = W5 := ⟨_, rfl⟩
    have b5 : Below w4.heap.size w4 W5 := by rw [← hW5]; exact (Below.refl _ _).alloc (Nat.le_refl _) _
    have z5 : W5.heap.size = w4.heap.size + 1 := by rw [← hW5]; simp
    have x5 : W5.cell? ⟨w4.heap.size, 0, none⟩ = some (.slice (some ⟨g4, 0, none⟩) n n) := by rw [← hW5]; simp
    have z4 := b4.size
    have b45 := keepS b4 b5
    have HB5 := hid (keepS HB3.out b45)
    have HS5 := hid (s4.below b5)
    have HO4 := hid (owns_below o4 b5 (fun k hk => by simp [Value.ownBlock] at hk; omega))
    have HO35 := hid (HO3.out.kept b45 (fun k hk => (HV3.out k hk).2))
    have bx5 := (b45.cell (p := ⟨w.heap.size, 0, none⟩) (show w.heap.size < w3.heap.size by omega)).trans bx3
    clear b4 b5 b45 s4 o4 HB3 HO3 bx3
    go_wp2_with fail
    try rw [hW5]
    clear hW5
    refine (implPutA _ n n R F T W5 hl HS5.out).mono ?_
    rintro e w6 ⟨v6, rfl, o6, b6⟩
    rw [HZS.out] at o6
    rw [HOK.out]
    have HB6 := hid (keepS HB5.out b6)
    have HO6 := hid o6
    have HV6 : Hid (∀ g, v6.ownBlock = some g → W5.heap.size ≤ g ∧ g < w6.heap.size) := fun g hg => World.ownsRow.lt o6 g hg
    have z6 := b6.size
    have HS6 := hid (HS5.out.below b6)
    have HO46 := hid (owns_below HO4.out b6 (fun k hk => by simp [Value.ownBlock] at hk; omega))
    have HO36 := hid (HO35.out.kept b6 (fun k hk => by have := (HV3.out k hk).2; omega))
    have bx6 := (b6.cell (p := ⟨w.heap.size, 0, none⟩) (show w.heap.size < W5.heap.size by omega)).trans bx5
    have x6 := (b6.cell (p := ⟨w4.heap.size, 0, none⟩) (show w4.heap.size < W5.heap.size by omega)).trans x5
    clear b6 o6 HB5 HO4 HO35 HS5 bx5 x5
    go_wp2_with fail
    refine (eqOwn HO6.out HO36.out (by omega)).mono ?_
    rintro e w7 ⟨rfl, b7⟩
    have HB7 := hid (keepS HB6.out b7)
    have z7 := b7.size
    have HO67 := hid (HO6.out.kept b7 (fun k hk => (HV6.out k hk).2))
    have HS7 := hid (HS6.out.below b7)
    have HO47 := hid (owns_below HO46.out b7 (fun k hk => by simp [Value.ownBlock] at hk; omega))
    have HO37 := hid (HO36.out.kept b7 (fun k hk => by have := (HV3.out k hk).2; omega))
    have bx7 := (b7.cell (p := ⟨w.heap.size, 0, none⟩) (show w.heap.size < w6.heap.size by omega)).trans bx6
    have x7 := (b7.cell (p := ⟨w4.heap.size, 0, none⟩) (show w4.heap.size < w6.heap.size by omega)).trans x6
    have zc : w.heap.size < w7.heap.size := by omega
    have zx : w4.heap.size < w7.heap.size := by omega
    clear b7 HB6 HO46 HO36 HS6 bx6 x6 HO6
    go_wp2_with fail
    refine wp_region_held_drew (S := fun w' => Below w7.heap.size w7 w' ∧ w'.cell? ⟨w4.heap.size, 0, none⟩ = some (.slice (some ⟨g4, 0, none⟩) n n) ∧ w'.cell? ⟨w.heap.size, 0, none⟩ = some (.slice a n c)) (by kernel_rfl) ⟨(Below.refl _ _).drew, x7, bx7⟩ (fun hHeld => ?_)
    refine take1 (i := 0) (d := some 41) (v := ?_) (by kernel_rfl) (by kernel_rfl) (by kernel_rfl) (by kernel_rfl) (fun _ _ _ h => h) ?_ hHeld ?_
    rotate_left
    · (intro o ho; simp only [List.getElem?_toArray, List.getElem?_cons_succ, List.getElem?_cons_zero, Option.some.injEq] at ho; subst ho; refine Or.inl ⟨by rfl, ?_⟩; intro w hSw; (try dsimp only at hSw); go_simp; try with_reducible rfl)
    try simp only [Act.put, List.setIfInBounds_toArray, List.set_cons_zero, List.set_cons_succ]
    refine take1 (i := 1) (d := some 42) (v := ?_) (by kernel_rfl) (by kernel_rfl) (by kernel_rfl) (by kernel_rfl) (fun _ _ _ h => h) ?_ hHeld ?_
    rotate_left
    · (intro o ho; simp only [List.getElem?_toArray, List.getElem?_cons_succ, List.getElem?_cons_zero, Option.some.injEq] at ho; subst ho; refine Or.inl ⟨by rfl, ?_⟩; intro w hSw; (try dsimp only at hSw); go_simp; try with_reducible rfl)
    try simp only [Act.put, List.setIfInBounds_toArray, List.set_cons_zero, List.set_cons_succ]
    refine call1 (i := 2) (d := some 43) (by kernel_rfl) (by kernel_rfl) ?_
    intro o ho hod K hK; simp only [List.getElem?_toArray, List.getElem?_cons_succ, List.getElem?_cons_zero, Option.some.injEq] at ho; subst ho
    go_simp
    refine (toContext a n c R F T _ hl (HH.out.below (keepS HB7.out hHeld.1))).mono ?_
    rintro e wa ⟨ga, hga, hga', rfl, sa, ba⟩
    have hB := keepS hHeld.1 ba
    refine hK.out _ _ ⟨hB, (hB.cell (p := ⟨w4.heap.size, 0, none⟩) zx).trans x7, (hB.cell (p := ⟨w.heap.size, 0, none⟩) zc).trans bx7⟩ (fun hHeld => ?_)
    clear hK K
    try simp only [Act.put, List.setIfInBounds_toArray, List.set_cons_zero, List.set_cons_succ]
    refine call1 (i := 3) (d := some 44) (by kernel_rfl) (by kernel_rfl) ?_
    intro o ho hod K hK; simp only [List.getElem?_toArray, List.getElem?_cons_succ, List.getElem?_cons_zero, Option.some.injEq] at ho; subst ho
    go_simp
    refine (eqContext _ _ n n n R F T _ hl (HS7.out.below hB) sa).mono ?_
    rintro e w9 ⟨rfl, bb⟩
    have hB9 := keepS hB bb
    refine hK.out _ _ ⟨hB9, (hB9.cell (p := ⟨w4.heap.size, 0, none⟩) zx).trans x7, (hB9.cell (p := ⟨w.heap.size, 0, none⟩) zc).trans bx7⟩ (fun hHeld => ?_)
    clear hK K
    try simp only [Act.put, List.setIfInBounds_toArray, List.set_cons_zero, List.set_cons_succ]
    refine take1 (i := 4) (d := some 45) (v := ?_) (by kernel_rfl) (by kernel_rfl) (by kernel_rfl) (by kernel_rfl) (fun _ _ _ h => h) ?_ hHeld ?_
    rotate_left
    · (intro o ho; simp only [List.getElem?_toArray, List.getElem?_cons_succ, List.getElem?_cons_zero, Option.some.injEq] at ho; subst ho; refine Or.inl ⟨by rfl, ?_⟩; intro w hSw; (try dsimp only at hSw); go_simp; try with_reducible rfl)
    try simp only [Act.put, List.setIfInBounds_toArray, List.set_cons_zero, List.set_cons_succ]
    refine wpAnyH_done (by kernel_rfl) ?_ _
    have HB9 := hid (keepS HB7.out hB9)
    have z9 := hB9.size
    have HO69 := hid (HO67.out.kept hB9 (fun k hk => by have := (HV6.out k hk).2; omega))
    have HO49 := hid (owns_below HO47.out hB9 (fun k hk => by simp [Value.ownBlock] at hk; omega))
    have HO39 := hid (HO37.out.kept hB9 (fun k hk => by have := (HV3.out k hk).2; omega))
    have bx9 := hHeld.2.2
    have x9 := hHeld.2.1
    clear hHeld hB hB9 ba bb sa HB7 HO67 HO47 HO37 HS7 bx7 x7
    go_wp2_with fail
    refine (markContext w3.heap.size g4 n n 1 xs4 w9 (by omega) (by omega) (by omega) HO49.out).mono ?_
    rintro e w10 ⟨rfl, b10, _, z10, o10⟩
    have g10 := grown_of b10 z10 o10
    have HB10 := hid (HB9.out.trans (b10.mono (by omega)))
    have HO610 := hid (HO69.out.gr g10 (fun g hg e => by injection e with e; have := (HV6.out g hg).1; omega))
    have HO310 := hid (HO39.out.gr g10 (fun g hg e => by injection e with e; have := (HV3.out g hg).2; omega))
    have bx10 := g10.cell bx9 (by simp; omega)
    clear b10 g10 o10 HB9 HO69 HO49 HO39 bx9 x9
    go_wp2_with fail
    refine (eqOwn HO610.out HO310.out (by omega)).mono ?_
    rintro e w11 ⟨rfl, b11⟩
    have HB11 := hid (keepS HB10.out b11)
    have z11 := b11.size
    have HO611 := hid (HO610.out.kept b11 (fun k hk => by have := (HV6.out k hk).2; omega))
    have HO311 := hid (HO310.out.kept b11 (fun k hk => by have := (HV3.out k hk).2; omega))
    have bx11 := (b11.cell (p := ⟨w.heap.size, 0, none⟩) (show w.heap.size < w10.heap.size by omega)).trans bx10
    clear b11 HB10 HO610 HO310 bx10
    go_wp2_with fail
    refine (markOwn HO611.out (by omega) 1 (by omega)).mono ?_
    rintro e w12 ⟨rfl, b12, z12, a12, c12, hv12, s12⟩
    subst hv12
    have HB12 := hid (HB11.out.trans (b12.mono (by omega)))
    have HO312 := hid (HO311.out.kept b12 (fun k hk => by have := (HV3.out k hk).2; omega))
    have bx12 := (b12.cell (p := ⟨w.heap.size, 0, none⟩) (show w.heap.size < W5.heap.size by omega)).trans bx11
    have HS12 := hid s12
    clear b12 HB11 HO611 HO311 bx11 s12
    go_wp2_with fail
    refine (heldB a12 zs.length c12 1 w12 (by omega) (by omega) HS12.out).mono ?_
    rintro e w12' ⟨rfl, rfl⟩
    go_wp2_with fail
    refine (toContext a n c R F T _ hl (HH.out.below HB12.out)).mono ?_
    rintro e w13 ⟨g13, hg13, hg13', rfl, s13, b13⟩
    have HB13 := hid (keepS HB12.out b13)
    have HS13 := hid s13
    have z13 := b13.size
    have HO313 := hid (HO312.out.kept b13 (fun k hk => by have := (HV3.out k hk).2; omega))
    clear b13 s13 HB12 HO312 bx12
    go_wp2_with fail
    refine (implPutA _ n n R F T w13 hl HS13.out).mono ?_
    rintro e w14 ⟨v14, rfl, o14, b14⟩
    rw [HZS.out] at o14
    rw [HOK.out]
    have HB14 := hid (keepS HB13.out b14)
    have HO14 := hid o14
    have HO314 := hid (HO313.out.kept b14 (fun k hk => by have := (HV3.out k hk).2; omega))
    clear b14 o14 HB13 HO313
    go_wp2_with fail
    refine (eqOwn HO14.out HO314.out (by omega)).mono ?_
    rintro e w15 ⟨rfl, b15⟩
    have HB15 := hid (keepS HB14.out b15)
    clear b15
    go_wp2_with fail
    go_ret
    exact ⟨rfl, HB15.out⟩
  · rw [show szLeft 1048576 n = -1 from if_pos (by omega)]
    have HB := hid B1
    clear B1
    go_wp2_with fail
    go_ret
    exact ⟨rfl, HB.out⟩

theorem own : ownKnob Try.prog.godebug = none := by kernel_rfl
theorem laidOut : laidOutB Try.prog = true := by kernel_rfl

set_option maxRecDepth 100000 in
theorem lifted (os : Os) (started : os.Started) (H : Type) (enc : TypeId × Value → H) :
    ReturnsInHanded {} Try.checked os 6 .any (Rows.fnExactPutContextSpec.pre6 enc Try.prog Try.f6 Rows.fnExactPutContextRow.domain false) (Rows.fnExactPutContextSpec.post enc Try.prog Try.f6 false true false false) := by
  refine returnsInHanded_of_change (C := Try.checked) own started (by kernel_rfl) Try.func6
    (ChangeSpec.witness6 (enc := enc) (C := Try.checked) false ⟨#[], #[.agg #[.slice none 0 0]], []⟩ 8 (by kernel_rfl) (by kernel_rfl) (by kernel_rfl) (by kernel_rfl)) ?_
  intro W base args ds gs before hval0 hW hcnd _
  have hval : ∀ (j : Nat) t v, Try.f6.params[j]? = some t → args[j]? = some v → Value.okWide Try.prog W .any base t v := hval0
  have hW' := hW
  obtain ⟨p, q, hA0, hV, rfl, hfz, hnd⟩ := hW
  have hA : DataW.TrodAll enc Try.prog W 0 (fun _ => true) true Try.f6.params.toList args.toList ds p := hA0
  rw [Try.params6] at hA hval
  obtain ⟨v0, vs0, d0, ds0, p0, q0, hargs, rfl, rfl, h0, r0⟩ := trodAll_cons hA
  obtain ⟨rfl, rfl, rfl⟩ := trodAll_nil r0
  obtain rfl : args = #[v0] := by cases args; simp_all
  obtain ⟨rfl, rfl⟩ := trodVars_none hV
  have k0 := h0
  have lt0 : ∀ x ∈ p0, x.block < W.heap.size := by obtain ⟨m, hm⟩ := k0; exact DataW.trod_lt m _ _ _ hm
  obtain ⟨a0, n0, c0, R0, F0, T0, rfl, hl0, s0, iR0, iF0, iT0⟩ := openCtx (hval 0 37 v0 rfl rfl) h0
  clear hA0 hval0
  refine (walk W a0 n0 c0 R0 F0 T0 hl0 (s0) iR0 iF0 iT0).mono fun e W' ⟨he, bel⟩ => ?_
  subst he
  exact ⟨_, rfl, _, _, _, [], _, [], hW', trodAll_mk1 (shut_bool Try.underlying4 _), (trodAll_cons_mk (Below.trod laidOut (by kernel_rfl) (of_decide_eq_true (by kernel_rfl)) k0 bel lt0) trodAll_mk0), rfl, bel.frame _, fun h => by cases h⟩

theorem over : Rows.fnExactPutContextRow.holds Try.pinned (OpenSpec.ofChange Rows.fnExactPutContextSpec) :=
  OpenClaim.holds_of_wide 6 Try.f6 rfl rfl rfl rfl rfl rfl rfl ⟨rfl, rfl, rfl, rfl, rfl⟩ rfl rfl rfl rfl rfl (by kernel_rfl) Try.func6 (by kernel_rfl)
    (of_decide_eq_true (by kernel_rfl)) (by unfold Func.isWrapper; first | (rw [if_pos (by decide +kernel)]; kernel_rfl) | (rw [if_neg (by decide +kernel)]; exact ⟨rfl, rfl⟩))
    (fun os started H enc _ => lifted os started H enc)
end Go.Proofs.Ytbimcammjohaoac.fnExactPutContext

namespace Go.Proofs.Ytbimcammjohaoac
theorem putContextHolds : Rows.FnExactPutContextSaid := fnExactPutContext.over
#print axioms putContextHolds
end Go.Proofs.Ytbimcammjohaoac
