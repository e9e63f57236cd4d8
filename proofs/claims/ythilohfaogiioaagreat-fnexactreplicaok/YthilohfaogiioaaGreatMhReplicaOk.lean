import Derived.Test.YthilohfaogiioaaGreatMg39
namespace Go.Proofs.YthilohfaogiioaaGreat.fnExactReplicaOk
open Go.ChangeShapes Go.WideShapes Go.ChangeAt Go.RowKit
set_option linter.unusedVariables false
set_option linter.unusedSimpArgs false

set_option maxRecDepth 100000 in
set_option maxHeartbeats 2000000 in
theorem walk (id : Int) (a x a' x' : Option Addr) (c d c' d' : Nat) (S S' : Sx) (w : World) (hb : S.Big) (hb' : S'.Big) (h : SAt w a x S) (h' : SAt w a' x' S') :
    Calls Tryz.prog 3 #[.agg #[.int .i64 id, .slice a S.l.length c, .slice x S.n d, .slice a' S'.l.length c', .slice x' S'.n d']] w fun e w' => e = .returned (.bool true) ∧ Below w.heap.size w w' := by
  obtain ⟨W, hW⟩ : ∃ W, w.alloc (.cells #[.int .i64 id, .slice a S.l.length c, .slice x S.n d, .slice a' S'.l.length c', .slice x' S'.n d'] 29) = W := ⟨_, rfl⟩
  have b0 : Below w.heap.size w W := by rw [← hW]; exact (Below.refl _ _).alloc (Nat.le_refl _) _
  have B0 : Bx5 W w.heap.size (.int .i64 id) (.slice a S.l.length c) (.slice x S.n d) (.slice a' S'.l.length c') (.slice x' S'.n d') := by rw [← hW]; exact Bx5.new _ _ _ _ _ _ _
  have HSZ := hid (szReplicaC id a x a' x' c d c' d' S S' W hb hb' (h.below b0) (h'.below b0))
  have HL := hid h
  have HL' := hid h'
  have HI := hid (And.intro hb.i1 hb'.i1)
  have HB0 := hid b0
  have HX := hid B0
  have k0 := B0.c0
  have k1 := B0.c1
  have k2 := B0.c2
  have k3 := B0.c3
  have k4 := B0.c4
  clear h h' b0 B0
  go_enter Tryz.func3, Tryz.ntmps3
  go_wp2_with fail
  try rw [hW]
  clear hW
  refine HSZ.out.mono ?_
  rintro e w1 ⟨⟨k', rfl, hsm⟩, b1⟩
  have HX1 := hid (HX.out.below b1 HX.out.lt)
  have HB1 := hid (keepS HB0.out b1)
  have HSM := hid hsm
  clear hsm b1 HSZ HB0 k0 k1 k2 k3 k4 HX
  by_cases hneg : k' < 0
  · have d0 : decide (k' < 0) = true := by simpa using hneg
    clear HSM
    go_wp2_with fail
    go_ret
    exact ⟨rfl, HB1.out⟩
  · have d0 : decide (k' < 0) = false := by simpa using hneg
    obtain ⟨hm, hm'⟩ := HSM.out (by omega)
    have HM := hid (And.intro hm hm')
    have HT : Hid (∀ w1, Below w.heap.size w w1 → Calls Tryz.prog 8 #[.agg #[.int .i64 id, .slice a S.l.length c, .slice x S.n d, .slice a' S'.l.length c', .slice x' S'.n d']] w1 fun e w' => ∃ g k g' k' mid, e = .returned (.agg #[.int .i64 id, .slice (some ⟨g, 0, none⟩) S.l.length S.l.length, .slice (some ⟨k, 0, none⟩) S.n S.n, .slice (some ⟨g', 0, none⟩) S'.l.length S'.l.length, .slice (some ⟨k', 0, none⟩) S'.n S'.n]) ∧ SNw w' w1.heap.size mid g k S ∧ SNw w' mid w'.heap.size g' k' S' ∧ Below w1.heap.size w1 w') := hid (fun w1 hb1 => toReplicaC id a x a' x' c d c' d' S S' w1 hm hm' (HL.out.below hb1) (HL'.out.below hb1))
    have k0 := HX1.out.c0
    have k1 := HX1.out.c1
    have k2 := HX1.out.c2
    have k3 := HX1.out.c3
    have k4 := HX1.out.c4
    clear HSM hm hm'
    go_wp2_with fail
    refine (HT.out w1 HB1.out).mono ?_
    rintro e w2 ⟨g2, h2, g3, h3, mid, rfl, s2, s3, b2⟩
    have HX2 := hid (HX1.out.below b2 HX1.out.lt)
    have HB2 := hid (keepS HB1.out b2)
    have HSP := hid (specReplicaOk id (some ⟨g2, 0, none⟩) (some ⟨h2, 0, none⟩) (some ⟨g3, 0, none⟩) (some ⟨h3, 0, none⟩) S.l.length S.n S'.l.length S'.n S S' w2 (Nat.le_refl _) hb.l1 (Nat.le_refl _) hb'.l1 HM.out.1 HM.out.2 s2.cap.cap s2.rn s3.cap.cap s3.rn)
    clear b2 s2 s3 HB1 HX1 k0 k1 k2 k3 k4
    go_wp2_with fail
    refine HSP.out.mono ?_
    rintro e w3 ⟨rfl, b3⟩
    have HX3 := hid (HX2.out.below b3 HX2.out.lt)
    have HB3 := hid (keepS HB2.out b3)
    obtain ⟨Y, hY⟩ : ∃ Y, rpB id S S' = Y := ⟨_, rfl⟩
    have HY := hid hY
    rw [hY]
    have k0 := HX3.out.c0
    have k1 := HX3.out.c1
    have k2 := HX3.out.c2
    have k3 := HX3.out.c3
    have k4 := HX3.out.c4
    clear hY b3 HSP HB2 HX2
    go_wp2_with fail
    refine (HT.out w3 HB3.out).mono ?_
    rintro e w4 ⟨g4, h4, g5, h5, mid4, rfl, s4, s5, b4⟩
    obtain ⟨W5, hW5⟩ : ∃ W5, w4.alloc (.cells #[.int .i64 id, .slice (some ⟨g4, 0, none⟩) S.l.length S.l.length, .slice (some ⟨h4, 0, none⟩) S.n S.n, .slice (some ⟨g5, 0, none⟩) S'.l.length S'.l.length, .slice (some ⟨h5, 0, none⟩) S'.n S'.n] 39) = W5 := ⟨_, rfl⟩
    have b5 : Below w4.heap.size w4 W5 := by rw [← hW5]; exact (Below.refl _ _).alloc (Nat.le_refl _) _
    have X5 : Bx5 W5 w4.heap.size (.int .i64 id) (.slice (some ⟨g4, 0, none⟩) S.l.length S.l.length) (.slice (some ⟨h4, 0, none⟩) S.n S.n) (.slice (some ⟨g5, 0, none⟩) S'.l.length S'.l.length) (.slice (some ⟨h5, 0, none⟩) S'.n S'.n) := by rw [← hW5]; exact Bx5.new _ _ _ _ _ _ _
    have HA5 := hid (s4.at.below b5)
    have HA5' := hid (s5.at.below b5)
    have HBB5 := hid (keepS HB3.out (keepS b4 b5))
    have HXX5 := hid (HX3.out.below (keepS b4 b5) HX3.out.lt)
    have HX5 := hid X5
    have x0 := X5.c0
    have x1 := X5.c1
    have x2 := X5.c2
    have x3 := X5.c3
    have x4 := X5.c4
    have HIM := hid (implReplicaOk id _ _ _ _ S.l.length S.n S'.l.length S'.n S S' W5 HI.out.1 HI.out.2 HM.out.1 HM.out.2 HA5.out HA5'.out)
    clear b4 s4 s5 b5 X5 k0 k1 k2 k3 k4 HB3 HX3
    go_wp2_with fail
    try rw [hW5]
    clear hW5
    refine HIM.out.mono ?_
    rintro e w6 ⟨rfl, b6⟩
    rw [HY.out]
    have HX6 := hid (HX5.out.below b6 HX5.out.lt)
    have HXX6 := hid (HXX5.out.below b6 HXX5.out.lt)
    have HA6 := hid (HA5.out.below b6)
    have HA6' := hid (HA5'.out.below b6)
    have HB6 := hid (keepS HBB5.out b6)
    have dY : (Y != Y) = false := by simp
    have dY2 : (Y == Y) = true := by simp
    clear b6 x0 x1 x2 x3 x4 HA5 HA5' HBB5 HXX5 HX5 HIM HY
    go_wp2_with fail
    have HCS : Hid (∀ w', Below w6.heap.size w6 w' → (Below w6.heap.size w6 w' ∧ (w'.cell? ⟨w4.heap.size, 0, none⟩ = some (.int .i64 id) ∧ w'.cell? ⟨w4.heap.size, 1, none⟩ = some (.slice (some ⟨g4, 0, none⟩) S.l.length S.l.length) ∧ w'.cell? ⟨w4.heap.size, 2, none⟩ = some (.slice (some ⟨h4, 0, none⟩) S.n S.n) ∧ w'.cell? ⟨w4.heap.size, 3, none⟩ = some (.slice (some ⟨g5, 0, none⟩) S'.l.length S'.l.length) ∧ w'.cell? ⟨w4.heap.size, 4, none⟩ = some (.slice (some ⟨h5, 0, none⟩) S'.n S'.n)) ∧ w'.cell? ⟨w.heap.size, 0, none⟩ = some (.int .i64 id) ∧ w'.cell? ⟨w.heap.size, 1, none⟩ = some (.slice a S.l.length c) ∧ w'.cell? ⟨w.heap.size, 2, none⟩ = some (.slice x S.n d) ∧ w'.cell? ⟨w.heap.size, 3, none⟩ = some (.slice a' S'.l.length c') ∧ w'.cell? ⟨w.heap.size, 4, none⟩ = some (.slice x' S'.n d'))) := hid (fun w' hB => by
      have A := HX6.out.below hB HX6.out.lt
      have C := HXX6.out.below hB HXX6.out.lt
      exact ⟨hB, ⟨A.c0, A.c1, A.c2, A.c3, A.c4⟩, C.c0, C.c1, C.c2, C.c3, C.c4⟩)
    refine wp_region_held_drew (S := fun w' => Below w6.heap.size w6 w' ∧ (w'.cell? ⟨w4.heap.size, 0, none⟩ = some (.int .i64 id) ∧ w'.cell? ⟨w4.heap.size, 1, none⟩ = some (.slice (some ⟨g4, 0, none⟩) S.l.length S.l.length) ∧ w'.cell? ⟨w4.heap.size, 2, none⟩ = some (.slice (some ⟨h4, 0, none⟩) S.n S.n) ∧ w'.cell? ⟨w4.heap.size, 3, none⟩ = some (.slice (some ⟨g5, 0, none⟩) S'.l.length S'.l.length) ∧ w'.cell? ⟨w4.heap.size, 4, none⟩ = some (.slice (some ⟨h5, 0, none⟩) S'.n S'.n)) ∧ w'.cell? ⟨w.heap.size, 0, none⟩ = some (.int .i64 id) ∧ w'.cell? ⟨w.heap.size, 1, none⟩ = some (.slice a S.l.length c) ∧ w'.cell? ⟨w.heap.size, 2, none⟩ = some (.slice x S.n d) ∧ w'.cell? ⟨w.heap.size, 3, none⟩ = some (.slice a' S'.l.length c') ∧ w'.cell? ⟨w.heap.size, 4, none⟩ = some (.slice x' S'.n d')) (by kernel_rfl) (HCS.out _ (Below.refl _ _).drew) (fun hHeld => ?_)
    refine take1 (i := 0) (d := some 22) (v := ?_) (by kernel_rfl) (by kernel_rfl) (by kernel_rfl) (by kernel_rfl) (fun _ _ _ h => h) ?_ hHeld ?_
    rotate_left
    · (intro o ho; simp only [List.getElem?_toArray, List.getElem?_cons_succ, List.getElem?_cons_zero, Option.some.injEq] at ho; subst ho; refine Or.inl ⟨by rfl, ?_⟩; intro w hSw; (try dsimp only at hSw); go_simp; try with_reducible rfl)
    try simp only [Act.put, List.setIfInBounds_toArray, List.set_cons_zero, List.set_cons_succ]
    refine take1 (i := 1) (d := some 23) (v := ?_) (by kernel_rfl) (by kernel_rfl) (by kernel_rfl) (by kernel_rfl) (fun _ _ _ h => h) ?_ hHeld ?_
    rotate_left
    · (intro o ho; simp only [List.getElem?_toArray, List.getElem?_cons_succ, List.getElem?_cons_zero, Option.some.injEq] at ho; subst ho; refine Or.inl ⟨by rfl, ?_⟩; intro w hSw; (try dsimp only at hSw); go_simp; try with_reducible rfl)
    try simp only [Act.put, List.setIfInBounds_toArray, List.set_cons_zero, List.set_cons_succ]
    refine call1 (i := 2) (d := some 24) (by kernel_rfl) (by kernel_rfl) ?_
    intro o ho hod K hK; simp only [List.getElem?_toArray, List.getElem?_cons_succ, List.getElem?_cons_zero, Option.some.injEq] at ho; subst ho
    go_simp
    refine (HT.out _ (keepS HB6.out hHeld.1)).mono ?_
    rintro e w7 ⟨g7, h7, g8, h8, mid7, rfl, s7, s8, b7⟩
    have hB7 := keepS hHeld.1 b7
    refine hK.out _ _ (HCS.out _ hB7) (fun hHeld => ?_)
    clear hK K
    try simp only [Act.put, List.setIfInBounds_toArray, List.set_cons_zero, List.set_cons_succ]
    refine call1 (i := 3) (d := some 25) (by kernel_rfl) (by kernel_rfl) ?_
    intro o ho hod K hK; simp only [List.getElem?_toArray, List.getElem?_cons_succ, List.getElem?_cons_zero, Option.some.injEq] at ho; subst ho
    go_simp
    refine (eqReplicaC id _ _ _ _ _ _ _ _ S.l.length S.n S'.l.length S'.n S.l.length S.n S'.l.length S'.n S S' _ HM.out.1 HM.out.2 (HA6.out.below hB7) (HA6'.out.below hB7) s7.at s8.at).mono ?_
    rintro e w8 ⟨rfl, b8⟩
    have hB8 := keepS hB7 b8
    refine hK.out _ _ (HCS.out _ hB8) (fun hHeld => ?_)
    clear hK K
    try simp only [Act.put, List.setIfInBounds_toArray, List.set_cons_zero, List.set_cons_succ]
    refine take1 (i := 4) (d := some 26) (v := ?_) (by kernel_rfl) (by kernel_rfl) (by kernel_rfl) (by kernel_rfl) (fun _ _ _ h => h) ?_ hHeld ?_
    rotate_left
    · (intro o ho; simp only [List.getElem?_toArray, List.getElem?_cons_succ, List.getElem?_cons_zero, Option.some.injEq] at ho; subst ho; refine Or.inl ⟨by rfl, ?_⟩; intro w hSw; (try dsimp only at hSw); go_simp; try with_reducible rfl)
    try simp only [Act.put, List.setIfInBounds_toArray, List.set_cons_zero, List.set_cons_succ]
    refine wpAnyH_done (by kernel_rfl) ?_ _
    have HZ := hid (keepS HB6.out hB8)
    clear hHeld hB7 hB8 b7 b8 s7 s8 HCS
    go_wp2_with fail
    go_ret
    exact ⟨rfl, HZ.out⟩

theorem own : ownKnob Tryz.prog.godebug = none := by kernel_rfl
theorem laidOut : laidOutB Tryz.prog = true := by kernel_rfl

set_option maxRecDepth 100000 in
theorem lifted (os : Os) (started : os.Started) (H : Type) (enc : TypeId × Value → H) :
    ReturnsInHanded {} Tryz.checked os 3 .any (Rows.fnExactReplicaOkSpec.pre6 enc Tryz.prog Tryz.f3 Rows.fnExactReplicaOkRow.domain false) (Rows.fnExactReplicaOkSpec.post enc Tryz.prog Tryz.f3 false true false false) := by
  refine returnsInHanded_of_change (C := Tryz.checked) own started (by kernel_rfl) Tryz.func3
    (ChangeSpec.witness6 (enc := enc) (C := Tryz.checked) false ⟨#[], #[.agg #[.int .i64 0, .slice none 0 0, .slice none 0 0, .slice none 0 0, .slice none 0 0]], []⟩ 8 (by kernel_rfl) (by kernel_rfl) (by kernel_rfl) (by kernel_rfl)) ?_
  intro W base args ds gs before hval0 hW hcnd _
  have hval : ∀ (j : Nat) t v, Tryz.f3.params[j]? = some t → args[j]? = some v → Value.okWide Tryz.prog W .any base t v := hval0
  have hW' := hW
  obtain ⟨p, q, hA0, hV, rfl, hfz, hnd⟩ := hW
  have hA : DataW.TrodAll enc Tryz.prog W 0 (fun _ => true) true Tryz.f3.params.toList args.toList ds p := hA0
  rw [Tryz.params3] at hA hval
  obtain ⟨v0, vs0, d0, ds0, p0, q0, hargs, rfl, rfl, h0, r0⟩ := trodAll_cons hA
  obtain ⟨rfl, rfl, rfl⟩ := trodAll_nil r0
  obtain rfl : args = #[v0] := by cases args; simp_all
  obtain ⟨rfl, rfl⟩ := trodVars_none hV
  have k0 := h0
  have lt0 : ∀ x ∈ p0, x.block < W.heap.size := by obtain ⟨m, hm⟩ := k0; exact DataW.trod_lt m _ _ _ hm
  obtain ⟨id, a, c, x, e, S, a', c', x', e', S', rfl, _, hb, hb', hs, hs'⟩ := openReplica (hval 0 29 v0 rfl rfl) h0
  clear hA0 hval0
  refine (walk id a x a' x' c e c' e' S S' W hb hb' hs hs').mono fun e W' ⟨he, bel⟩ => ?_
  subst he
  exact ⟨_, rfl, _, _, _, [], _, [], hW', trodAll_mk1 (shut_bool Tryz.underlying4 _), (trodAll_cons_mk (Below.trod laidOut (by kernel_rfl) (of_decide_eq_true (by kernel_rfl)) k0 bel lt0) trodAll_mk0), rfl, bel.frame _, fun h => by cases h⟩

theorem over : Rows.fnExactReplicaOkRow.holds Tryz.pinned (OpenSpec.ofChange Rows.fnExactReplicaOkSpec) :=
  OpenClaim.holds_of_wide 3 Tryz.f3 rfl rfl rfl rfl rfl rfl rfl ⟨rfl, rfl, rfl, rfl, rfl⟩ rfl rfl rfl rfl rfl (by kernel_rfl) Tryz.func3 (by kernel_rfl)
    (of_decide_eq_true (by kernel_rfl)) (by unfold Func.isWrapper; first | (rw [if_pos (by decide +kernel)]; kernel_rfl) | (rw [if_neg (by decide +kernel)]; exact ⟨rfl, rfl⟩))
    (fun os started H enc _ => lifted os started H enc)
end Go.Proofs.YthilohfaogiioaaGreat.fnExactReplicaOk

namespace Go.Proofs.YthilohfaogiioaaGreat
theorem replicaOkHolds : Rows.FnExactReplicaOkSaid := fnExactReplicaOk.over
#print axioms replicaOkHolds
end Go.Proofs.YthilohfaogiioaaGreat
