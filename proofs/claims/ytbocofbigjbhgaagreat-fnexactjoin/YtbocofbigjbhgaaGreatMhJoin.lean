import Derived.Test.YtbocofbigjbhgaaGreatMhJmd
import Derived.Test.YtbocofbigjbhgaaGreatMg15
set_option linter.unusedVariables false
set_option linter.unusedSimpArgs false

namespace Go.Proofs.YtbocofbigjbhgaaGreat.fnExactJoin
open Go.ChangeShapes Go.WideShapes Go.ChangeAt Go.RowKit
theorem cutT {G T : Prop} (h : Hid T → G) (k : T) : G := h k
set_option maxRecDepth 100000 in
set_option maxHeartbeats 20000000 in
theorem walk (a x a' x' : Option Addr) (c d c' d' : Nat) (S S' : Sx) (w : World) (hb : S.Big) (hb' : S'.Big) (h : SAt w a x S) (h' : SAt w a' x' S') :
    Calls Tryz.prog 4 #[.agg #[.slice a S.l.length c, .slice x S.n d], .agg #[.slice a' S'.l.length c', .slice x' S'.n d']] w fun e w' => e = .returned (.bool true) ∧ Below w.heap.size w w' := by
  obtain ⟨W, hW⟩ : ∃ W, (w.alloc (.cells #[.slice a S.l.length c, .slice x S.n d] 27)).alloc (.cells #[.slice a' S'.l.length c', .slice x' S'.n d'] 27) = W := ⟨_, rfl⟩
  have b0 : Below w.heap.size w W := by rw [← hW]; exact below2 _ _ _
  have A0 : Bx2 W w.heap.size (.slice a S.l.length c) (.slice x S.n d) := by rw [← hW]; exact (Bx2.made w _ _ _).allocs _
  have B0 : Bx2 W (w.heap.size + 1) (.slice a' S'.l.length c') (.slice x' S'.n d') := by
    rw [← hW]
    simpa using Bx2.made (w.alloc (.cells #[.slice a S.l.length c, .slice x S.n d] 27)) (.slice a' S'.l.length c') (.slice x' S'.n d') 27
  have HSZ := hid (szStateC a c S.l x S.n d 1048576 W (by omega) (by omega) hb.l1 hb.n1 hb.b1 (h.below b0).lf)
  have HSA := hid h
  have HSB := hid h'
  have HIA := hid hb.i1
  have HIB := hid hb'.i1
  have HBG := hid hb'
  have HB0 := hid b0
  have HBA0 := hid A0
  have HBB0 := hid B0
  have k0 := A0.c0
  have k1 := A0.c1
  clear h h' b0 A0 B0 hb hb'
  go_enter Tryz.func4, Tryz.ntmps4
  go_wp2_with fail
  try rw [hW]
  clear hW
  refine HSZ.out.mono ?_
  rintro e w1 ⟨⟨k', rfl, hk0, hk1, hsm⟩, b1⟩
  have HBA1 := hid (HBA0.out.below b1 HBA0.out.lt)
  have HBB1 := hid (HBB0.out.below b1 HBB0.out.lt)
  have HB1 := hid (keepS HB0.out b1)
  have HSM := hid hsm
  clear hsm b1 HSZ HB0 k0 k1 HBA0 HBB0
  by_cases hneg : k' < 0
  case pos =>
    have d0 : decide (k' < 0) = true := by simpa using hneg
    clear HSM
    go_wp2_with fail
    go_ret
    exact ⟨rfl, HB1.out⟩
  have d0 : decide (k' < 0) = false := by simpa using hneg
  have hm : S.Sm := by
    obtain ⟨⟨hl, hlf⟩, hr⟩ := HSM.out (by omega)
    exact ⟨hl, fun i => (hlf i).1.1, hr⟩
  have HSZ2 := hid (szStateC a' c' S'.l x' S'.n d' k' w1 (by omega) (by omega) HBG.out.l1 HBG.out.n1 HBG.out.b1 (HSB.out.below HB1.out).lf)
  have k0 := HBB1.out.c0
  have k1 := HBB1.out.c1
  clear HSM
  go_wp2_with fail
  refine HSZ2.out.mono ?_
  rintro e U ⟨⟨k2, rfl, hk20, hk21, hsm⟩, b1⟩
  have HBA := hid (HBA1.out.below b1 HBA1.out.lt)
  have HBB := hid (HBB1.out.below b1 HBB1.out.lt)
  have HU := hid (keepS HB1.out b1)
  have HSM := hid hsm
  clear hsm b1 HSZ2 HB1 k0 k1 HBA1 HBB1
  by_cases hneg2 : k2 < 0
  case pos =>
    have d2 : decide (k2 < 0) = true := by simpa using hneg2
    clear HSM
    go_wp2_with fail
    go_ret
    exact ⟨rfl, HU.out⟩
  have d2 : decide (k2 < 0) = false := by simpa using hneg2
  have hm' : S'.Sm := by
    obtain ⟨⟨hl, hlf⟩, hr⟩ := HSM.out (by omega)
    exact ⟨hl, fun i => (hlf i).1.1, hr⟩
  have HZS := hid (jnZ_sm S S')
  obtain ⟨JL, hJL⟩ : ∃ JL, (jnZ S S').l.length = JL := ⟨_, rfl⟩
  obtain ⟨JU, hJU⟩ : ∃ JU, (jnZ S S').n = JU := ⟨_, rfl⟩
  obtain ⟨V, hV⟩ : ∃ V, jnB S S' = V := ⟨_, rfl⟩
  have HSP : Hid (∀ (g k g' k' lo hi lo' hi' : Nat) (w : World), SNw w lo hi g k S → SNw w lo' hi' g' k' S' → Calls Tryz.prog 10 #[.agg #[.slice (some ⟨g, 0, none⟩) S.l.length S.l.length, .slice (some ⟨k, 0, none⟩) S.n S.n], .agg #[.slice (some ⟨g', 0, none⟩) S'.l.length S'.l.length, .slice (some ⟨k', 0, none⟩) S'.n S'.n]] w fun e w' => ∃ a m x t, e = .returned (.tuple #[.agg #[.slice a JL m, .slice x JU t], .bool V]) ∧ SNj w' w.heap.size a x (jnZ S S') ∧ Below w.heap.size w w') := hid (fun g k g' k' lo hi lo' hi' w h1 h2 => by
    have := specJoinC g k g' k' S.l.length S.n S'.l.length S'.n lo hi lo' hi' S S' w hm hm' h1 h2
    rw [hJL, hJU, hV] at this; exact this)
  have HIM : Hid (∀ (a x a' x' : Option Addr) (w : World), SAt w a x S → SAt w a' x' S' → Calls Tryz.prog 11 #[.agg #[.slice a S.l.length S.l.length, .slice x S.n S.n], .agg #[.slice a' S'.l.length S'.l.length, .slice x' S'.n S'.n]] w fun e w' => ∃ a m x t, e = .returned (.tuple #[.agg #[.slice a JL m, .slice x JU t], .bool V]) ∧ SOw w' w.heap.size w'.heap.size a x t (jnZ S S') ∧ Below w.heap.size w w') := hid (fun a x a' x' w h1 h2 => by
    have := implJoinC a x a' x' S.l.length S.n S'.l.length S'.n S S' w hm hm' HIA.out HIB.out h1 h2
    rw [hJL, hJU, hV] at this; exact this)
  have HIN : Hid (∀ (a x a' x' : Option Addr) (w : World), SAt w a x S → SAt w a' x' S' → Calls Tryz.prog 11 #[.agg #[.slice a S.l.length S.l.length, .slice x S.n S.n], .agg #[.slice a' S'.l.length S'.l.length, .slice x' S'.n S'.n]] w fun e w' => ∃ a m x t, e = .returned (.tuple #[.agg #[.slice a JL m, .slice x JU t], .bool V]) ∧ SNj w' w.heap.size a x (jnZ S S') ∧ Below w.heap.size w w') := hid (fun a x a' x' w h1 h2 => by
    refine (HIM.out a x a' x' w h1 h2).mono ?_
    rintro e w' ⟨a, m, x, t, e1, e2, e3⟩
    exact ⟨a, m, x, t, e1, e2.nj, e3⟩)
  have HEQ : Hid (∀ (a x a' x' : Option Addr) (c d c' d' : Nat) (w : World), SAt w a x (jnZ S S') → SAt w a' x' (jnZ S S') → Calls Tryz.prog 9 #[.agg #[.slice a JL c, .slice x JU d], .agg #[.slice a' JL c', .slice x' JU d']] w fun e w' => e = .returned (.bool true) ∧ Below w.heap.size w w') := hid (fun a x a' x' c d c' d' w h1 h2 => by
    have := eqStateC a a' c c' (jnZ S S').l x x' (jnZ S S').n d d' (jnZ S S').R (jnZ S S').F (jnZ S S').T w HZS.out.l1 HZS.out.p1 HZS.out.n1 h1.lf h2.lf h1.rn h2.rn
    rw [hJL, hJU] at this; exact this)
  have HJL := hid hJL
  have HJU := hid hJU
  have dV : (V != V) = false := by simp
  clear HSM HBG hJL hJU hV
  have HSE : Hid (∀ w', Below U.heap.size U w' → (w'.cell? ⟨w.heap.size, 0, none⟩ = some (.slice a S.l.length c) ∧ w'.cell? ⟨w.heap.size, 1, none⟩ = some (.slice x S.n d) ∧ w'.cell? ⟨w.heap.size + 1, 0, none⟩ = some (.slice a' S'.l.length c') ∧ w'.cell? ⟨w.heap.size + 1, 1, none⟩ = some (.slice x' S'.n d'))) := hid (fun w' b => by
    have A1 := HBA.out.below b HBA.out.lt
    have B1 := HBB.out.below b HBB.out.lt
    exact ⟨A1.c0, A1.c1, B1.c0, B1.c1⟩)
  go_wp2_with fail
  apply cutT
  · intro key
    refine wp_region_held_drew (S := fun w' => w'.cell? ⟨w.heap.size, 0, none⟩ = some (.slice a S.l.length c) ∧ w'.cell? ⟨w.heap.size, 1, none⟩ = some (.slice x S.n d) ∧ w'.cell? ⟨w.heap.size + 1, 0, none⟩ = some (.slice a' S'.l.length c') ∧ w'.cell? ⟨w.heap.size + 1, 1, none⟩ = some (.slice x' S'.n d')) (by kernel_rfl) (HSE.out _ (Below.refl _ _).drew) (fun hHeld => ?_)
    refine tk 0 28 ?_ (by kernel_rfl) (by kernel_rfl) (fun _ _ _ h => h) ?_ hHeld ?_
    rotate_left
    · (intro o ho; simp only [gZa, gZb, gZc, gZd] at ho; subst ho; refine Or.inl ⟨by rfl, ?_⟩; intro w hSw; (try dsimp only at hSw); go_simp; try with_reducible rfl)
    try simp only [Act.put, sZa, sZb, sZc]
    refine tk 2 30 ?_ (by kernel_rfl) (by kernel_rfl) (fun _ _ _ h => h) ?_ hHeld ?_
    rotate_left
    · (intro o ho; simp only [gZa, gZb, gZc, gZd] at ho; subst ho; refine Or.inl ⟨by rfl, ?_⟩; intro w hSw; (try dsimp only at hSw); go_simp; try with_reducible rfl)
    try simp only [Act.put, sZa, sZb, sZc]
    obtain ⟨p0, hq0⟩ : ∃ p0, U.drew = p0 := ⟨_, rfl⟩
    have hB0 : Below U.heap.size U p0 := by rw [← hq0]; exact (Below.refl _ _).drew
    rw [hq0]
    clear hq0
    refine ready2t (i := 1) (d := some 29) (j := 8) (d' := some 6) (by kernel_rfl) (by kernel_rfl) (by kernel_rfl) ?_ ?_
    rotate_left
    · skip
      intro o ho hod K hK; simp only [gZa, gZb, gZc, gZd] at ho; subst ho
      go_simp
      obtain ⟨px, hqx⟩ : ∃ px, p0.alloc (.cells #[.slice none 0 0, .slice none 0 0] 35) = px := ⟨_, rfl⟩
      have hxb : Below p0.heap.size p0 px := by rw [← hqx]; exact (Below.refl _ _).alloc (Nat.le_refl _) _
      have hxc : Bx2 px p0.heap.size (.slice none 0 0) (.slice none 0 0) := by rw [← hqx]; exact Bx2.made _ _ _ _
      obtain ⟨A6, hA6⟩ : ∃ A6, p0.heap.size = A6 := ⟨_, rfl⟩
      have hA0 : U.heap.size ≤ A6 := by have := hB0.size; omega
      have hAe : p0.heap.size ≤ A6 ∧ A6 ≤ p0.heap.size := by omega
      rw [hA6] at hxc ⊢
      rw [hqx]
      clear hqx hA6
      have hBx := keepS hB0 hxb
      have hzx := hxb.size
      refine hK.out _ _ (HSE.out _ hBx) (fun hHeld => ?_)
      clear hK K
      try simp only [Act.put, sZa, sZb, sZc]
      refine call1 (i := 1) (d := some 29) (by kernel_rfl) (by kernel_rfl) ?_
      intro o ho hod K hK; simp only [gZa, gZb, gZc, gZd] at ho; subst ho
      go_simp
      refine (toSt a x c d S _ hm (HSA.out.below (HU.out.trans (hBx.mono HU.out.size)))).mono ?_
      rintro e p3 ⟨pg3, pk3, rfl, sn3, pb3⟩
      have hz3 := pb3.size
      replace hxc := hxc.below pb3 hxc.lt
      have hC0 := keepS hBx pb3
      refine hK.out _ _ (HSE.out _ hC0) (fun hHeld => ?_)
      clear hK K
      try simp only [Act.put, sZa, sZb, sZc]
      refine call1 (i := 3) (d := some 31) (by kernel_rfl) (by kernel_rfl) ?_
      intro o ho hod K hK; simp only [gZa, gZb, gZc, gZd] at ho; subst ho
      go_simp
      refine (toSt a' x' c' d' S' _ hm' (HSB.out.below (HU.out.trans (hC0.mono HU.out.size)))).mono ?_
      rintro e p4 ⟨pg4, pk4, rfl, sn4, pb4⟩
      have hz4 := pb4.size
      replace sn3 := sn3.below pb4
      replace hxc := hxc.below pb4 hxc.lt
      have hC1 := keepS hC0 pb4
      refine hK.out _ _ (HSE.out _ hC1) (fun hHeld => ?_)
      clear hK K
      try simp only [Act.put, sZa, sZb, sZc]
      refine call1 (i := 4) (d := some 32) (by kernel_rfl) (by kernel_rfl) ?_
      intro o ho hod K hK; simp only [gZa, gZb, gZc, gZd] at ho; subst ho
      go_simp
      have hBn := hC1
      have hAl := hxc.lt
      refine (HSP.out pg3 pk3 pg4 pk4 _ _ _ _ _ sn3 sn4).mono ?_
      rintro e p5 ⟨sa, sm, sx, st, rfl, sn5, pb5⟩
      have hz5 := pb5.size
      replace hxc := hxc.below pb5 hxc.lt
      have hC2 := keepS hC1 pb5
      refine hK.out _ _ (HSE.out _ hC2) (fun hHeld => ?_)
      clear hK K
      try simp only [Act.put, sZa, sZb, sZc]
      refine tk 5 27 ?_ (by kernel_rfl) (by kernel_rfl) (fun _ _ _ h => h) ?_ hHeld ?_
      rotate_left
      · (intro o ho; simp only [gZa, gZb, gZc, gZd] at ho; subst ho; refine Or.inl ⟨by rfl, ?_⟩; intro w hSw; (try dsimp only at hSw); go_simp; try with_reducible rfl)
      try simp only [Act.put, sZa, sZb, sZc]
      refine tk 6 33 ?_ (by kernel_rfl) (by kernel_rfl) (fun _ _ _ h => h) ?_ hHeld ?_
      rotate_left
      · (intro o ho; simp only [gZa, gZb, gZc, gZd] at ho; subst ho; refine Or.inl ⟨by rfl, ?_⟩; intro w hSw; (try dsimp only at hSw); go_simp; try with_reducible rfl)
      try simp only [Act.put, sZa, sZb, sZc]
      refine tk 7 34 ?_ (by kernel_rfl) (by kernel_rfl) (fun _ _ _ h => h) ?_ hHeld ?_
      rotate_left
      · (intro o ho; simp only [gZa, gZb, gZc, gZd] at ho; subst ho; refine Or.inl ⟨by rfl, ?_⟩; intro w hSw; (try dsimp only at hSw); go_simp; try with_reducible rfl)
      try simp only [Act.put, sZa, sZb, sZc]
      have xc0 := hxc.c0
      have xc1 := hxc.c1
      have xcf := hxc.f
      refine call1 (i := 9) (d := none) (by kernel_rfl) (by kernel_rfl) ?_
      intro o ho hod K hK; simp only [gZa, gZb, gZc, gZd] at ho; subst ho
      go_simp
      obtain ⟨W6, hW6⟩ : ∃ W6, (p5.setCell ⟨A6, 0, none⟩ (.slice sa JL sm)).setCell ⟨A6, 1, none⟩ (.slice sx JU st) = W6 := ⟨_, rfl⟩
      have hB7 : Below U.heap.size U W6 := by rw [← hW6]; exact (hC2.setCell (p := ⟨A6, 0, none⟩) hA0 _).setCell (p := ⟨A6, 1, none⟩) hA0 _
      have hx7 : Bx2 W6 A6 (.slice sa JL sm) (.slice sx JU st) := by rw [← hW6]; exact hxc.set _ _
      have hz7 : W6.heap.size = p5.heap.size := by rw [← hW6]; simp [World.setCell]
      have hN7 : SNj W6 U.heap.size sa sx (jnZ S S') := sn5.box (A := A6) (by have := hBn.size; omega) (by omega) (by omega) (fun g g1 g2 => by
        rw [← hW6, Below.heap_setCell _ _ _ _ g1, Below.heap_setCell _ _ _ _ g1])
      rw [hW6]
      refine hK.out _ _ (HSE.out _ hB7) (fun hHeld => ?_)
      clear hK K
      try simp only [Act.put, sZa, sZb, sZc]
      refine tk 10 7 ?_ (by kernel_rfl) (by kernel_rfl) (fun _ _ _ h => h) ?_ hHeld ?_
      rotate_left
      · (intro o ho; simp only [gZa, gZb, gZc, gZd] at ho; subst ho; refine Or.inl ⟨by rfl, ?_⟩; intro w hSw; (try dsimp only at hSw); go_simp; try with_reducible rfl)
      try simp only [Act.put, sZa, sZb, sZc]
      refine wpAnyH_done (by kernel_rfl) ?_ _
      have hP : U.heap.size ≤ A6 ∧ A6 < W6.heap.size ∧ Below U.heap.size U W6 ∧ Bx2 W6 A6 (.slice sa JL sm) (.slice sx JU st) ∧ SNj W6 U.heap.size sa sx (jnZ S S') := ⟨hA0, hx7.lt, hB7, hx7, hN7⟩
      try clear hHeld
      try clear hW6
      try clear hz7
      try clear xc0
      try clear xc1
      try clear xcf
      try clear hxc
      try clear hAe
      try clear hxb
      try clear hA0
      try clear hB7
      try clear hx7
      try clear hN7
      try clear sn3
      try clear sn4
      try clear sn5
      try clear hBn
      try clear hB0
      try clear hBx
      try clear hB6
      try clear hC0
      try clear hC1
      try clear hC2
      try clear pb3
      try clear pb4
      try clear pb5
      try clear hz3
      try clear hz4
      try clear hz5
      try clear hAl
      try clear hzx
      revert hP
      revert A6 pg3 pk3 pg4 pk4 sa sm sx st W6
      exact key.out
    · skip
      intro o ho hod K hK; simp only [gZa, gZb, gZc, gZd] at ho; subst ho
      go_simp
      refine (toSt a x c d S _ hm (HSA.out.below (HU.out.trans (hB0.mono HU.out.size)))).mono ?_
      rintro e p3 ⟨pg3, pk3, rfl, sn3, pb3⟩
      have hz3 := pb3.size
      have hC0 := keepS hB0 pb3
      refine hK.out _ _ (HSE.out _ hC0) (fun hHeld => ?_)
      clear hK K
      try simp only [Act.put, sZa, sZb, sZc]
      refine ready2t (i := 3) (d := some 31) (j := 8) (d' := some 6) (by kernel_rfl) (by kernel_rfl) (by kernel_rfl) ?_ ?_
      rotate_left
      · skip
        intro o ho hod K hK; simp only [gZa, gZb, gZc, gZd] at ho; subst ho
        go_simp
        obtain ⟨px, hqx⟩ : ∃ px, p3.alloc (.cells #[.slice none 0 0, .slice none 0 0] 35) = px := ⟨_, rfl⟩
        have hxb : Below p3.heap.size p3 px := by rw [← hqx]; exact (Below.refl _ _).alloc (Nat.le_refl _) _
        have hxc : Bx2 px p3.heap.size (.slice none 0 0) (.slice none 0 0) := by rw [← hqx]; exact Bx2.made _ _ _ _
        obtain ⟨A6, hA6⟩ : ∃ A6, p3.heap.size = A6 := ⟨_, rfl⟩
        have hA0 : U.heap.size ≤ A6 := by have := hC0.size; omega
        have hAe : p3.heap.size ≤ A6 ∧ A6 ≤ p3.heap.size := by omega
        rw [hA6] at hxc ⊢
        rw [hqx]
        clear hqx hA6
        have hBx := keepS hC0 hxb
        have hzx := hxb.size
        replace sn3 := sn3.below hxb
        refine hK.out _ _ (HSE.out _ hBx) (fun hHeld => ?_)
        clear hK K
        try simp only [Act.put, sZa, sZb, sZc]
        refine call1 (i := 3) (d := some 31) (by kernel_rfl) (by kernel_rfl) ?_
        intro o ho hod K hK; simp only [gZa, gZb, gZc, gZd] at ho; subst ho
        go_simp
        refine (toSt a' x' c' d' S' _ hm' (HSB.out.below (HU.out.trans (hBx.mono HU.out.size)))).mono ?_
        rintro e p4 ⟨pg4, pk4, rfl, sn4, pb4⟩
        have hz4 := pb4.size
        replace sn3 := sn3.below pb4
        replace hxc := hxc.below pb4 hxc.lt
        have hC1 := keepS hBx pb4
        refine hK.out _ _ (HSE.out _ hC1) (fun hHeld => ?_)
        clear hK K
        try simp only [Act.put, sZa, sZb, sZc]
        refine call1 (i := 4) (d := some 32) (by kernel_rfl) (by kernel_rfl) ?_
        intro o ho hod K hK; simp only [gZa, gZb, gZc, gZd] at ho; subst ho
        go_simp
        have hBn := hC1
        have hAl := hxc.lt
        refine (HSP.out pg3 pk3 pg4 pk4 _ _ _ _ _ sn3 sn4).mono ?_
        rintro e p5 ⟨sa, sm, sx, st, rfl, sn5, pb5⟩
        have hz5 := pb5.size
        replace hxc := hxc.below pb5 hxc.lt
        have hC2 := keepS hC1 pb5
        refine hK.out _ _ (HSE.out _ hC2) (fun hHeld => ?_)
        clear hK K
        try simp only [Act.put, sZa, sZb, sZc]
        refine tk 5 27 ?_ (by kernel_rfl) (by kernel_rfl) (fun _ _ _ h => h) ?_ hHeld ?_
        rotate_left
        · (intro o ho; simp only [gZa, gZb, gZc, gZd] at ho; subst ho; refine Or.inl ⟨by rfl, ?_⟩; intro w hSw; (try dsimp only at hSw); go_simp; try with_reducible rfl)
        try simp only [Act.put, sZa, sZb, sZc]
        refine tk 6 33 ?_ (by kernel_rfl) (by kernel_rfl) (fun _ _ _ h => h) ?_ hHeld ?_
        rotate_left
        · (intro o ho; simp only [gZa, gZb, gZc, gZd] at ho; subst ho; refine Or.inl ⟨by rfl, ?_⟩; intro w hSw; (try dsimp only at hSw); go_simp; try with_reducible rfl)
        try simp only [Act.put, sZa, sZb, sZc]
        refine tk 7 34 ?_ (by kernel_rfl) (by kernel_rfl) (fun _ _ _ h => h) ?_ hHeld ?_
        rotate_left
        · (intro o ho; simp only [gZa, gZb, gZc, gZd] at ho; subst ho; refine Or.inl ⟨by rfl, ?_⟩; intro w hSw; (try dsimp only at hSw); go_simp; try with_reducible rfl)
        try simp only [Act.put, sZa, sZb, sZc]
        have xc0 := hxc.c0
        have xc1 := hxc.c1
        have xcf := hxc.f
        refine call1 (i := 9) (d := none) (by kernel_rfl) (by kernel_rfl) ?_
        intro o ho hod K hK; simp only [gZa, gZb, gZc, gZd] at ho; subst ho
        go_simp
        obtain ⟨W6, hW6⟩ : ∃ W6, (p5.setCell ⟨A6, 0, none⟩ (.slice sa JL sm)).setCell ⟨A6, 1, none⟩ (.slice sx JU st) = W6 := ⟨_, rfl⟩
        have hB7 : Below U.heap.size U W6 := by rw [← hW6]; exact (hC2.setCell (p := ⟨A6, 0, none⟩) hA0 _).setCell (p := ⟨A6, 1, none⟩) hA0 _
        have hx7 : Bx2 W6 A6 (.slice sa JL sm) (.slice sx JU st) := by rw [← hW6]; exact hxc.set _ _
        have hz7 : W6.heap.size = p5.heap.size := by rw [← hW6]; simp [World.setCell]
        have hN7 : SNj W6 U.heap.size sa sx (jnZ S S') := sn5.box (A := A6) (by have := hBn.size; omega) (by omega) (by omega) (fun g g1 g2 => by
          rw [← hW6, Below.heap_setCell _ _ _ _ g1, Below.heap_setCell _ _ _ _ g1])
        rw [hW6]
        refine hK.out _ _ (HSE.out _ hB7) (fun hHeld => ?_)
        clear hK K
        try simp only [Act.put, sZa, sZb, sZc]
        refine tk 10 7 ?_ (by kernel_rfl) (by kernel_rfl) (fun _ _ _ h => h) ?_ hHeld ?_
        rotate_left
        · (intro o ho; simp only [gZa, gZb, gZc, gZd] at ho; subst ho; refine Or.inl ⟨by rfl, ?_⟩; intro w hSw; (try dsimp only at hSw); go_simp; try with_reducible rfl)
        try simp only [Act.put, sZa, sZb, sZc]
        refine wpAnyH_done (by kernel_rfl) ?_ _
        have hP : U.heap.size ≤ A6 ∧ A6 < W6.heap.size ∧ Below U.heap.size U W6 ∧ Bx2 W6 A6 (.slice sa JL sm) (.slice sx JU st) ∧ SNj W6 U.heap.size sa sx (jnZ S S') := ⟨hA0, hx7.lt, hB7, hx7, hN7⟩
        exact key.out A6 pg3 pk3 pg4 pk4 sa sm sx st W6 hP
      · skip
        intro o ho hod K hK; simp only [gZa, gZb, gZc, gZd] at ho; subst ho
        go_simp
        refine (toSt a' x' c' d' S' _ hm' (HSB.out.below (HU.out.trans (hC0.mono HU.out.size)))).mono ?_
        rintro e p4 ⟨pg4, pk4, rfl, sn4, pb4⟩
        have hz4 := pb4.size
        replace sn3 := sn3.below pb4
        have hC1 := keepS hC0 pb4
        refine hK.out _ _ (HSE.out _ hC1) (fun hHeld => ?_)
        clear hK K
        try simp only [Act.put, sZa, sZb, sZc]
        refine ready2t (i := 4) (d := some 32) (j := 8) (d' := some 6) (by kernel_rfl) (by kernel_rfl) (by kernel_rfl) ?_ ?_
        rotate_left
        · skip
          intro o ho hod K hK; simp only [gZa, gZb, gZc, gZd] at ho; subst ho
          go_simp
          obtain ⟨px, hqx⟩ : ∃ px, p4.alloc (.cells #[.slice none 0 0, .slice none 0 0] 35) = px := ⟨_, rfl⟩
          have hxb : Below p4.heap.size p4 px := by rw [← hqx]; exact (Below.refl _ _).alloc (Nat.le_refl _) _
          have hxc : Bx2 px p4.heap.size (.slice none 0 0) (.slice none 0 0) := by rw [← hqx]; exact Bx2.made _ _ _ _
          obtain ⟨A6, hA6⟩ : ∃ A6, p4.heap.size = A6 := ⟨_, rfl⟩
          have hA0 : U.heap.size ≤ A6 := by have := hC1.size; omega
          have hAe : p4.heap.size ≤ A6 ∧ A6 ≤ p4.heap.size := by omega
          rw [hA6] at hxc ⊢
          rw [hqx]
          clear hqx hA6
          have hBx := keepS hC1 hxb
          have hzx := hxb.size
          replace sn3 := sn3.below hxb
          replace sn4 := sn4.below hxb
          refine hK.out _ _ (HSE.out _ hBx) (fun hHeld => ?_)
          clear hK K
          try simp only [Act.put, sZa, sZb, sZc]
          refine call1 (i := 4) (d := some 32) (by kernel_rfl) (by kernel_rfl) ?_
          intro o ho hod K hK; simp only [gZa, gZb, gZc, gZd] at ho; subst ho
          go_simp
          have hBn := hBx
          have hAl := hxc.lt
          refine (HSP.out pg3 pk3 pg4 pk4 _ _ _ _ _ sn3 sn4).mono ?_
          rintro e p5 ⟨sa, sm, sx, st, rfl, sn5, pb5⟩
          have hz5 := pb5.size
          replace hxc := hxc.below pb5 hxc.lt
          have hC2 := keepS hBx pb5
          refine hK.out _ _ (HSE.out _ hC2) (fun hHeld => ?_)
          clear hK K
          try simp only [Act.put, sZa, sZb, sZc]
          refine tk 5 27 ?_ (by kernel_rfl) (by kernel_rfl) (fun _ _ _ h => h) ?_ hHeld ?_
          rotate_left
          · (intro o ho; simp only [gZa, gZb, gZc, gZd] at ho; subst ho; refine Or.inl ⟨by rfl, ?_⟩; intro w hSw; (try dsimp only at hSw); go_simp; try with_reducible rfl)
          try simp only [Act.put, sZa, sZb, sZc]
          refine tk 6 33 ?_ (by kernel_rfl) (by kernel_rfl) (fun _ _ _ h => h) ?_ hHeld ?_
          rotate_left
          · (intro o ho; simp only [gZa, gZb, gZc, gZd] at ho; subst ho; refine Or.inl ⟨by rfl, ?_⟩; intro w hSw; (try dsimp only at hSw); go_simp; try with_reducible rfl)
          try simp only [Act.put, sZa, sZb, sZc]
          refine tk 7 34 ?_ (by kernel_rfl) (by kernel_rfl) (fun _ _ _ h => h) ?_ hHeld ?_
          rotate_left
          · (intro o ho; simp only [gZa, gZb, gZc, gZd] at ho; subst ho; refine Or.inl ⟨by rfl, ?_⟩; intro w hSw; (try dsimp only at hSw); go_simp; try with_reducible rfl)
          try simp only [Act.put, sZa, sZb, sZc]
          have xc0 := hxc.c0
          have xc1 := hxc.c1
          have xcf := hxc.f
          refine call1 (i := 9) (d := none) (by kernel_rfl) (by kernel_rfl) ?_
          intro o ho hod K hK; simp only [gZa, gZb, gZc, gZd] at ho; subst ho
          go_simp
          obtain ⟨W6, hW6⟩ : ∃ W6, (p5.setCell ⟨A6, 0, none⟩ (.slice sa JL sm)).setCell ⟨A6, 1, none⟩ (.slice sx JU st) = W6 := ⟨_, rfl⟩
          have hB7 : Below U.heap.size U W6 := by rw [← hW6]; exact (hC2.setCell (p := ⟨A6, 0, none⟩) hA0 _).setCell (p := ⟨A6, 1, none⟩) hA0 _
          have hx7 : Bx2 W6 A6 (.slice sa JL sm) (.slice sx JU st) := by rw [← hW6]; exact hxc.set _ _
          have hz7 : W6.heap.size = p5.heap.size := by rw [← hW6]; simp [World.setCell]
          have hN7 : SNj W6 U.heap.size sa sx (jnZ S S') := sn5.box (A := A6) (by have := hBn.size; omega) (by omega) (by omega) (fun g g1 g2 => by
            rw [← hW6, Below.heap_setCell _ _ _ _ g1, Below.heap_setCell _ _ _ _ g1])
          rw [hW6]
          refine hK.out _ _ (HSE.out _ hB7) (fun hHeld => ?_)
          clear hK K
          try simp only [Act.put, sZa, sZb, sZc]
          refine tk 10 7 ?_ (by kernel_rfl) (by kernel_rfl) (fun _ _ _ h => h) ?_ hHeld ?_
          rotate_left
          · (intro o ho; simp only [gZa, gZb, gZc, gZd] at ho; subst ho; refine Or.inl ⟨by rfl, ?_⟩; intro w hSw; (try dsimp only at hSw); go_simp; try with_reducible rfl)
          try simp only [Act.put, sZa, sZb, sZc]
          refine wpAnyH_done (by kernel_rfl) ?_ _
          have hP : U.heap.size ≤ A6 ∧ A6 < W6.heap.size ∧ Below U.heap.size U W6 ∧ Bx2 W6 A6 (.slice sa JL sm) (.slice sx JU st) ∧ SNj W6 U.heap.size sa sx (jnZ S S') := ⟨hA0, hx7.lt, hB7, hx7, hN7⟩
          exact key.out A6 pg3 pk3 pg4 pk4 sa sm sx st W6 hP
        · skip
          intro o ho hod K hK; simp only [gZa, gZb, gZc, gZd] at ho; subst ho
          go_simp
          have hBn := hC1
          refine (HSP.out pg3 pk3 pg4 pk4 _ _ _ _ _ sn3 sn4).mono ?_
          rintro e p5 ⟨sa, sm, sx, st, rfl, sn5, pb5⟩
          have hz5 := pb5.size
          have hC2 := keepS hC1 pb5
          refine hK.out _ _ (HSE.out _ hC2) (fun hHeld => ?_)
          clear hK K
          try simp only [Act.put, sZa, sZb, sZc]
          refine tk 5 27 ?_ (by kernel_rfl) (by kernel_rfl) (fun _ _ _ h => h) ?_ hHeld ?_
          rotate_left
          · (intro o ho; simp only [gZa, gZb, gZc, gZd] at ho; subst ho; refine Or.inl ⟨by rfl, ?_⟩; intro w hSw; (try dsimp only at hSw); go_simp; try with_reducible rfl)
          try simp only [Act.put, sZa, sZb, sZc]
          refine tk 6 33 ?_ (by kernel_rfl) (by kernel_rfl) (fun _ _ _ h => h) ?_ hHeld ?_
          rotate_left
          · (intro o ho; simp only [gZa, gZb, gZc, gZd] at ho; subst ho; refine Or.inl ⟨by rfl, ?_⟩; intro w hSw; (try dsimp only at hSw); go_simp; try with_reducible rfl)
          try simp only [Act.put, sZa, sZb, sZc]
          refine tk 7 34 ?_ (by kernel_rfl) (by kernel_rfl) (fun _ _ _ h => h) ?_ hHeld ?_
          rotate_left
          · (intro o ho; simp only [gZa, gZb, gZc, gZd] at ho; subst ho; refine Or.inl ⟨by rfl, ?_⟩; intro w hSw; (try dsimp only at hSw); go_simp; try with_reducible rfl)
          try simp only [Act.put, sZa, sZb, sZc]
          refine call1 (i := 8) (d := some 6) (by kernel_rfl) (by kernel_rfl) ?_
          intro o ho hod K hK; simp only [gZa, gZb, gZc, gZd] at ho; subst ho
          go_simp
          obtain ⟨px, hqx⟩ : ∃ px, p5.alloc (.cells #[.slice none 0 0, .slice none 0 0] 35) = px := ⟨_, rfl⟩
          have hxb : Below p5.heap.size p5 px := by rw [← hqx]; exact (Below.refl _ _).alloc (Nat.le_refl _) _
          have hxc : Bx2 px p5.heap.size (.slice none 0 0) (.slice none 0 0) := by rw [← hqx]; exact Bx2.made _ _ _ _
          obtain ⟨A6, hA6⟩ : ∃ A6, p5.heap.size = A6 := ⟨_, rfl⟩
          have hA0 : U.heap.size ≤ A6 := by have := hC2.size; omega
          have hAe : p5.heap.size ≤ A6 ∧ A6 ≤ p5.heap.size := by omega
          rw [hA6] at hxc ⊢
          rw [hqx]
          clear hqx hA6
          have hB6 := keepS hC2 hxb
          have hzx := hxb.size
          refine hK.out _ _ (HSE.out _ hB6) (fun hHeld => ?_)
          clear hK K
          try simp only [Act.put, sZa, sZb, sZc]
          have xc0 := hxc.c0
          have xc1 := hxc.c1
          have xcf := hxc.f
          refine call1 (i := 9) (d := none) (by kernel_rfl) (by kernel_rfl) ?_
          intro o ho hod K hK; simp only [gZa, gZb, gZc, gZd] at ho; subst ho
          go_simp
          obtain ⟨W6, hW6⟩ : ∃ W6, (px.setCell ⟨A6, 0, none⟩ (.slice sa JL sm)).setCell ⟨A6, 1, none⟩ (.slice sx JU st) = W6 := ⟨_, rfl⟩
          have hB7 : Below U.heap.size U W6 := by rw [← hW6]; exact (hB6.setCell (p := ⟨A6, 0, none⟩) hA0 _).setCell (p := ⟨A6, 1, none⟩) hA0 _
          have hx7 : Bx2 W6 A6 (.slice sa JL sm) (.slice sx JU st) := by rw [← hW6]; exact hxc.set _ _
          have hz7 : W6.heap.size = px.heap.size := by rw [← hW6]; simp [World.setCell]
          have hN7 : SNj W6 U.heap.size sa sx (jnZ S S') := sn5.box (A := A6) (by have := hBn.size; omega) (by omega) (by omega) (fun g g1 g2 => by
            rw [← hW6, Below.heap_setCell _ _ _ _ g1, Below.heap_setCell _ _ _ _ g1]
            exact hxb.block g g2)
          rw [hW6]
          refine hK.out _ _ (HSE.out _ hB7) (fun hHeld => ?_)
          clear hK K
          try simp only [Act.put, sZa, sZb, sZc]
          refine tk 10 7 ?_ (by kernel_rfl) (by kernel_rfl) (fun _ _ _ h => h) ?_ hHeld ?_
          rotate_left
          · (intro o ho; simp only [gZa, gZb, gZc, gZd] at ho; subst ho; refine Or.inl ⟨by rfl, ?_⟩; intro w hSw; (try dsimp only at hSw); go_simp; try with_reducible rfl)
          try simp only [Act.put, sZa, sZb, sZc]
          refine wpAnyH_done (by kernel_rfl) ?_ _
          have hP : U.heap.size ≤ A6 ∧ A6 < W6.heap.size ∧ Below U.heap.size U W6 ∧ Bx2 W6 A6 (.slice sa JL sm) (.slice sx JU st) ∧ SNj W6 U.heap.size sa sx (jnZ S S') := ⟨hA0, hx7.lt, hB7, hx7, hN7⟩
          exact key.out A6 pg3 pk3 pg4 pk4 sa sm sx st W6 hP
  intro A6 pg3 pk3 pg4 pk4 sa sm sx st W6 hP
  clear HSE
  obtain ⟨hA0, hA1, hB7, hx7, hN7⟩ := hP
  have HW6 := hid (HU.out.trans (hB7.mono HU.out.size))
  have HBA6 := hid (HBA.out.below hB7 HBA.out.lt)
  have HBB6 := hid (HBB.out.below hB7 HBB.out.lt)
  have HXW := hid hx7
  have HNW := hid hN7
  have HA1 := hid hA1
  have HW6z : Hid (w.heap.size + 1 < W6.heap.size) := hid HBB6.out.lt
  have p0 := HBA6.out.c0
  have p1 := HBA6.out.c1
  have HMK : Hid (∀ (w : World) (g k lo hi : Nat) (k0 : Nat), k0 ≤ 4000000000000 → hi ≤ w.heap.size → lo ≤ k ∧ k < hi → LMk w lo hi g S.l → (∃ ys, w.ownsRow lo 76 3 (.slice (some ⟨k, 0, none⟩) S.n S.n) S.n ys) → Calls Tryz.prog 12 #[.agg #[.slice (some ⟨g, 0, none⟩) S.l.length S.l.length, .slice (some ⟨k, 0, none⟩) S.n S.n], .int .i64 (k0 : Int)] w fun e w' => (∃ k1 : Nat, k1 ≤ k0 + 3000000000000 ∧ e = .returned (.int .i64 (k1 : Int))) ∧ Btw lo hi w w') := hid (fun w g k lo hi k0 h1 h2 h3 h4 h5 => by
    obtain ⟨ys, h5⟩ := h5
    exact markStateC lo hi g k S.n k0 S.l ys w h1 hm.l1 hm.p1 hm.n1 h2 h3 h4 h5)
  have HMK' : Hid (∀ (w : World) (g k lo hi : Nat) (k0 : Nat), k0 ≤ 4000000000000 → hi ≤ w.heap.size → lo ≤ k ∧ k < hi → LMk w lo hi g S'.l → (∃ ys, w.ownsRow lo 76 3 (.slice (some ⟨k, 0, none⟩) S'.n S'.n) S'.n ys) → Calls Tryz.prog 12 #[.agg #[.slice (some ⟨g, 0, none⟩) S'.l.length S'.l.length, .slice (some ⟨k, 0, none⟩) S'.n S'.n], .int .i64 (k0 : Int)] w fun e w' => (∃ k1 : Nat, k1 ≤ k0 + 3000000000000 ∧ e = .returned (.int .i64 (k1 : Int))) ∧ Btw lo hi w w') := hid (fun w g k lo hi k0 h1 h2 h3 h4 h5 => by
    obtain ⟨ys, h5⟩ := h5
    exact markStateC lo hi g k S'.n k0 S'.l ys w h1 hm'.l1 hm'.p1 hm'.n1 h2 h3 h4 h5)
  obtain ⟨M, hM⟩ : ∃ M, mE (jnZ S S') 1 = M := ⟨_, rfl⟩
  have HMO : Hid (∀ (w : World) (a x : Option Addr) (c d lo hi : Nat), SOw w lo hi a x d (jnZ S S') → Calls Tryz.prog 12 #[.agg #[.slice a JL c, .slice x JU d], .int .i64 1] w fun e w' => e = .returned (.int .i64 (M : Int)) ∧ Btw lo hi w w' ∧ SMkN w' lo hi a x (jnZ S S') 1) := hid (fun w a x c d lo hi h => by
    have := markStateO (c := c) h HZS.out 1 (by omega)
    rw [HJL.out, HJU.out, hM] at this
    simpa using this)
  have HHO : Hid (∀ (w : World) (a x : Option Addr) (c d : Nat), SMk w a x (jnZ S S') 1 → Calls Tryz.prog 13 #[.agg #[.slice a JL c, .slice x JU d], .int .i64 1] w fun e w' => e = .returned (.int .i64 (M : Int)) ∧ Below w.heap.size w w') := hid (fun w a x c d h => by
    have := heldStateO (c := c) (d := d) HZS.out 1 (by omega) h
    rw [HJL.out, HJU.out, hM] at this
    simpa using this)
  have hM0 : (0 : Int) ≤ (M : Int) := Int.natCast_nonneg _
  clear hA0 hA1 hB7 hx7 hN7 HBA HBB hM
  go_wp2_with fail
  refine (toSt a x c d S W6 hm (HSA.out.below HW6.out)).mono ?_
  rintro e w7 ⟨g7, k7, rfl, s7, b7⟩
  obtain ⟨w8, hw8⟩ : ∃ w8, w7.alloc (.cells #[.slice (some ⟨g7, 0, none⟩) S.l.length S.l.length, .slice (some ⟨k7, 0, none⟩) S.n S.n] 35) = w8 := ⟨_, rfl⟩
  have b8 : Below w7.heap.size w7 w8 := by rw [← hw8]; exact (Below.refl _ _).alloc (Nat.le_refl _) _
  have HX8 : Hid (Bx2 w8 w7.heap.size (.slice (some ⟨g7, 0, none⟩) S.l.length S.l.length) (.slice (some ⟨k7, 0, none⟩) S.n S.n)) := hid (by rw [← hw8]; exact Bx2.made _ _ _ _)
  have HS8 := hid (s7.below b8)
  have HK8 := hid (keepS b7 b8)
  have HZ8 : Hid (W6.heap.size ≤ w7.heap.size ∧ w7.heap.size < w8.heap.size) := hid ⟨b7.size, HX8.out.lt⟩
  have q0 := (HBB6.out.below HK8.out HBB6.out.lt).c0
  have q1 := (HBB6.out.below HK8.out HBB6.out.lt).c1
  clear s7 b7 b8 p0 p1
  go_wp2_with fail
  try rw [hw8]
  clear hw8
  refine (toSt a' x' c' d' S' w8 hm' (HSB.out.below (HW6.out.trans (HK8.out.mono HW6.out.size)))).mono ?_
  rintro e w9 ⟨g9, k9, rfl, s9, b9⟩
  obtain ⟨w10, hw10⟩ : ∃ w10, w9.alloc (.cells #[.slice (some ⟨g9, 0, none⟩) S'.l.length S'.l.length, .slice (some ⟨k9, 0, none⟩) S'.n S'.n] 35) = w10 := ⟨_, rfl⟩
  have b10 : Below w9.heap.size w9 w10 := by rw [← hw10]; exact (Below.refl _ _).alloc (Nat.le_refl _) _
  have HX10 : Hid (Bx2 w10 w9.heap.size (.slice (some ⟨g9, 0, none⟩) S'.l.length S'.l.length) (.slice (some ⟨k9, 0, none⟩) S'.n S'.n)) := hid (by rw [← hw10]; exact Bx2.made _ _ _ _)
  have B810 := keepS b9 b10
  have HS10 := hid (s9.below b10)
  have HS8a := hid (HS8.out.below B810)
  have HX8a := hid (HX8.out.below B810 HX8.out.lt)
  have HK10 := hid (keepS HK8.out B810)
  have HZ10 : Hid (w8.heap.size ≤ w9.heap.size ∧ w9.heap.size < w10.heap.size) := hid ⟨b9.size, HX10.out.lt⟩
  have p0 := HX8a.out.c0
  have p1 := HX8a.out.c1
  have p2 := HX10.out.c0
  have p3 := HX10.out.c1
  clear s9 b9 b10 q0 q1 B810 HS8 HX8 HK8
  go_wp2_with fail
  try rw [hw10]
  clear hw10
  refine (HIM.out (some ⟨g7, 0, none⟩) (some ⟨k7, 0, none⟩) (some ⟨g9, 0, none⟩) (some ⟨k9, 0, none⟩) w10 HS8a.out.at HS10.out.at).mono ?_
  rintro e w11 ⟨ja, jm, jx, jt, rfl, so, b11⟩
  obtain ⟨w12, hw12⟩ : ∃ w12, w11.alloc (.cells #[.slice ja JL jm, .slice jx JU jt] 35) = w12 := ⟨_, rfl⟩
  have b12 : Below w11.heap.size w11 w12 := by rw [← hw12]; exact (Below.refl _ _).alloc (Nat.le_refl _) _
  have HX12 : Hid (Bx2 w12 w11.heap.size (.slice ja JL jm) (.slice jx JU jt)) := hid (by rw [← hw12]; exact Bx2.made _ _ _ _)
  have B1012 := keepS b11 b12
  have HSO := hid (so.below b12)
  have HS12 := hid (HS10.out.below B1012)
  have HS8b := hid (HS8a.out.below B1012)
  have HX8b := hid (HX8a.out.below B1012 HX8a.out.lt)
  have HX10b := hid (HX10.out.below B1012 HX10.out.lt)
  have HK12 := hid (keepS HK10.out B1012)
  have HZ12 : Hid (w10.heap.size ≤ w11.heap.size ∧ w11.heap.size < w12.heap.size) := hid ⟨b11.size, HX12.out.lt⟩
  have r0 := HX12.out.c0
  have r1 := HX12.out.c1
  have r2 := (HXW.out.below HK12.out HXW.out.lt).c0
  have r3 := (HXW.out.below HK12.out HXW.out.lt).c1
  clear so b11 b12 p0 p1 p2 p3 B1012 HS8a HX8a HK10 HS10 HX10
  go_wp2_with fail
  try rw [hw12]
  clear hw12
  refine (HEQ.out ja jx sa sx jm jt sm st w12 HSO.out.at (HNW.out.low HK12.out)).mono ?_
  rintro e w13 ⟨rfl, b13⟩
  have HSO3 := hid (HSO.out.below b13)
  have HS13 := hid (HS12.out.below b13)
  have HS8c := hid (HS8b.out.below b13)
  have HX8c := hid (HX8b.out.below b13 HX8b.out.lt)
  have HX10c := hid (HX10b.out.below b13 HX10b.out.lt)
  have HX12c := hid (HX12.out.below b13 HX12.out.lt)
  have HK13 := hid (keepS HK12.out b13)
  have HZ13 : Hid (w12.heap.size ≤ w13.heap.size) := hid b13.size
  clear b13 r0 r1 r2 r3 HSO HS12 HS8b HX8b HX10b HX12 HK12
  go_wp2_with fail
  have HSE : Hid (∀ w', Below w13.heap.size w13 w' → (w'.cell? ⟨w7.heap.size, 0, none⟩ = some (.slice (some ⟨g7, 0, none⟩) S.l.length S.l.length) ∧ w'.cell? ⟨w7.heap.size, 1, none⟩ = some (.slice (some ⟨k7, 0, none⟩) S.n S.n) ∧ w'.cell? ⟨w.heap.size, 0, none⟩ = some (.slice a S.l.length c) ∧ w'.cell? ⟨w.heap.size, 1, none⟩ = some (.slice x S.n d))) := hid (fun w' b => by
    have X := HX8c.out.below b HX8c.out.lt
    have A := HBA6.out.below (keepS HK13.out b) HBA6.out.lt
    exact ⟨X.c0, X.c1, A.c0, A.c1⟩)
  refine wp_region_held_drew (S := fun w' => w'.cell? ⟨w7.heap.size, 0, none⟩ = some (.slice (some ⟨g7, 0, none⟩) S.l.length S.l.length) ∧ w'.cell? ⟨w7.heap.size, 1, none⟩ = some (.slice (some ⟨k7, 0, none⟩) S.n S.n) ∧ w'.cell? ⟨w.heap.size, 0, none⟩ = some (.slice a S.l.length c) ∧ w'.cell? ⟨w.heap.size, 1, none⟩ = some (.slice x S.n d)) (by kernel_rfl) (HSE.out _ (Below.refl _ _).drew) (fun hHeld => ?_)
  refine tk 0 54 ?_ (by kernel_rfl) (by kernel_rfl) (fun _ _ _ h => h) ?_ hHeld ?_
  rotate_left
  · (intro o ho; simp only [gZa, gZb, gZc, gZd] at ho; subst ho; refine Or.inl ⟨by rfl, ?_⟩; intro w hSw; (try dsimp only at hSw); go_simp; try with_reducible rfl)
  try simp only [Act.put, sZa, sZb, sZc]
  refine tk 1 55 ?_ (by kernel_rfl) (by kernel_rfl) (fun _ _ _ h => h) ?_ hHeld ?_
  rotate_left
  · (intro o ho; simp only [gZa, gZb, gZc, gZd] at ho; subst ho; refine Or.inl ⟨by rfl, ?_⟩; intro w hSw; (try dsimp only at hSw); go_simp; try with_reducible rfl)
  try simp only [Act.put, sZa, sZb, sZc]
  refine call1 (i := 2) (d := some 56) (by kernel_rfl) (by kernel_rfl) ?_
  intro o ho hod K hK; simp only [gZa, gZb, gZc, gZd] at ho; subst ho
  go_simp
  refine (toSt a x c d S _ hm (HSA.out.below (HW6.out.trans ((keepS HK13.out (Below.refl _ _).drew).mono HW6.out.size)))).mono ?_
  rintro e v1 ⟨vg, vk, rfl, vs, vb⟩
  have vb1 : Below w13.heap.size w13 v1 := ⟨vb.os, vb.tape, vb.output, vb.size, vb.block⟩
  refine hK.out _ _ (HSE.out _ vb1) (fun hHeld => ?_)
  clear hK K
  try simp only [Act.put, sZa, sZb, sZc]
  refine call1 (i := 3) (d := some 57) (by kernel_rfl) (by kernel_rfl) ?_
  intro o ho hod K hK; simp only [gZa, gZb, gZc, gZd] at ho; subst ho
  go_simp
  refine (eqStateC (some ⟨g7, 0, none⟩) (some ⟨vg, 0, none⟩) S.l.length S.l.length S.l (some ⟨k7, 0, none⟩) (some ⟨vk, 0, none⟩) S.n S.n S.n S.R S.F S.T v1 hm.l1 hm.p1 hm.n1 (HS8c.out.below vb1).at.lf vs.at.lf (HS8c.out.below vb1).at.rn vs.at.rn).mono ?_
  rintro e w14 ⟨rfl, vb2⟩
  have vb3 := keepS vb1 vb2
  refine hK.out _ _ (HSE.out _ vb3) (fun hHeld => ?_)
  clear hK K
  try simp only [Act.put, sZa, sZb, sZc]
  refine tk 4 58 ?_ (by kernel_rfl) (by kernel_rfl) (fun _ _ _ h => h) ?_ hHeld ?_
  rotate_left
  · (intro o ho; simp only [gZa, gZb, gZc, gZd] at ho; subst ho; refine Or.inl ⟨by rfl, ?_⟩; intro w hSw; (try dsimp only at hSw); go_simp; try with_reducible rfl)
  try simp only [Act.put, sZa, sZb, sZc]
  refine wpAnyH_done (by kernel_rfl) ?_ _
  have HSO4 := hid (HSO3.out.below vb3)
  have HS14 := hid (HS13.out.below vb3)
  have HS8d := hid (HS8c.out.below vb3)
  have HX8d := hid (HX8c.out.below vb3 HX8c.out.lt)
  have HX10d := hid (HX10c.out.below vb3 HX10c.out.lt)
  have HX12d := hid (HX12c.out.below vb3 HX12c.out.lt)
  have HK14 := hid (keepS HK13.out vb3)
  have HZ14 : Hid (w13.heap.size ≤ w14.heap.size) := hid vb3.size
  clear hHeld vb vb1 vb2 vb3 vs HSE HSO3 HS13 HS8c HX8c HX10c HX12c HK13
  go_wp2_with fail
  have HSE : Hid (∀ w', Below w14.heap.size w14 w' → (w'.cell? ⟨w9.heap.size, 0, none⟩ = some (.slice (some ⟨g9, 0, none⟩) S'.l.length S'.l.length) ∧ w'.cell? ⟨w9.heap.size, 1, none⟩ = some (.slice (some ⟨k9, 0, none⟩) S'.n S'.n) ∧ w'.cell? ⟨w.heap.size + 1, 0, none⟩ = some (.slice a' S'.l.length c') ∧ w'.cell? ⟨w.heap.size + 1, 1, none⟩ = some (.slice x' S'.n d'))) := hid (fun w' b => by
    have X := HX10d.out.below b HX10d.out.lt
    have A := HBB6.out.below (keepS HK14.out b) HBB6.out.lt
    exact ⟨X.c0, X.c1, A.c0, A.c1⟩)
  refine wp_region_held_drew (S := fun w' => w'.cell? ⟨w9.heap.size, 0, none⟩ = some (.slice (some ⟨g9, 0, none⟩) S'.l.length S'.l.length) ∧ w'.cell? ⟨w9.heap.size, 1, none⟩ = some (.slice (some ⟨k9, 0, none⟩) S'.n S'.n) ∧ w'.cell? ⟨w.heap.size + 1, 0, none⟩ = some (.slice a' S'.l.length c') ∧ w'.cell? ⟨w.heap.size + 1, 1, none⟩ = some (.slice x' S'.n d')) (by kernel_rfl) (HSE.out _ (Below.refl _ _).drew) (fun hHeld => ?_)
  refine tk 0 59 ?_ (by kernel_rfl) (by kernel_rfl) (fun _ _ _ h => h) ?_ hHeld ?_
  rotate_left
  · (intro o ho; simp only [gZa, gZb, gZc, gZd] at ho; subst ho; refine Or.inl ⟨by rfl, ?_⟩; intro w hSw; (try dsimp only at hSw); go_simp; try with_reducible rfl)
  try simp only [Act.put, sZa, sZb, sZc]
  refine tk 1 60 ?_ (by kernel_rfl) (by kernel_rfl) (fun _ _ _ h => h) ?_ hHeld ?_
  rotate_left
  · (intro o ho; simp only [gZa, gZb, gZc, gZd] at ho; subst ho; refine Or.inl ⟨by rfl, ?_⟩; intro w hSw; (try dsimp only at hSw); go_simp; try with_reducible rfl)
  try simp only [Act.put, sZa, sZb, sZc]
  refine call1 (i := 2) (d := some 61) (by kernel_rfl) (by kernel_rfl) ?_
  intro o ho hod K hK; simp only [gZa, gZb, gZc, gZd] at ho; subst ho
  go_simp
  refine (toSt a' x' c' d' S' _ hm' (HSB.out.below (HW6.out.trans ((keepS HK14.out (Below.refl _ _).drew).mono HW6.out.size)))).mono ?_
  rintro e v1 ⟨vg, vk, rfl, vs, vb⟩
  have vb1 : Below w14.heap.size w14 v1 := ⟨vb.os, vb.tape, vb.output, vb.size, vb.block⟩
  refine hK.out _ _ (HSE.out _ vb1) (fun hHeld => ?_)
  clear hK K
  try simp only [Act.put, sZa, sZb, sZc]
  refine call1 (i := 3) (d := some 62) (by kernel_rfl) (by kernel_rfl) ?_
  intro o ho hod K hK; simp only [gZa, gZb, gZc, gZd] at ho; subst ho
  go_simp
  refine (eqStateC (some ⟨g9, 0, none⟩) (some ⟨vg, 0, none⟩) S'.l.length S'.l.length S'.l (some ⟨k9, 0, none⟩) (some ⟨vk, 0, none⟩) S'.n S'.n S'.n S'.R S'.F S'.T v1 hm'.l1 hm'.p1 hm'.n1 (HS14.out.below vb1).at.lf vs.at.lf (HS14.out.below vb1).at.rn vs.at.rn).mono ?_
  rintro e w15 ⟨rfl, vb2⟩
  have vb3 := keepS vb1 vb2
  refine hK.out _ _ (HSE.out _ vb3) (fun hHeld => ?_)
  clear hK K
  try simp only [Act.put, sZa, sZb, sZc]
  refine tk 4 63 ?_ (by kernel_rfl) (by kernel_rfl) (fun _ _ _ h => h) ?_ hHeld ?_
  rotate_left
  · (intro o ho; simp only [gZa, gZb, gZc, gZd] at ho; subst ho; refine Or.inl ⟨by rfl, ?_⟩; intro w hSw; (try dsimp only at hSw); go_simp; try with_reducible rfl)
  try simp only [Act.put, sZa, sZb, sZc]
  refine wpAnyH_done (by kernel_rfl) ?_ _
  have HSO5 := hid (HSO4.out.below vb3)
  have HS15 := hid (HS14.out.below vb3)
  have HS8e := hid (HS8d.out.below vb3)
  have HX8e := hid (HX8d.out.below vb3 HX8d.out.lt)
  have HX10e := hid (HX10d.out.below vb3 HX10d.out.lt)
  have HX12e := hid (HX12d.out.below vb3 HX12d.out.lt)
  have HK15 := hid (keepS HK14.out vb3)
  have HZ15 : Hid (w14.heap.size ≤ w15.heap.size) := hid vb3.size
  clear hHeld vb vb1 vb2 vb3 vs HSE HSO4 HS14 HS8d HX8d HX10d HX12d HK14
  have m0 := HX8e.out.c0
  have m1 := HX8e.out.c1
  have HZA : Hid (w.heap.size + 1 < W6.heap.size ∧ W6.heap.size ≤ w7.heap.size ∧ w7.heap.size < w8.heap.size ∧ w8.heap.size ≤ w9.heap.size ∧ w9.heap.size < w10.heap.size ∧ w10.heap.size ≤ w11.heap.size ∧ w11.heap.size < w12.heap.size ∧ w12.heap.size ≤ w15.heap.size ∧ A6 < W6.heap.size) := hid (by
    have h1 := HZ8.out; have h2 := HZ10.out; have h3 := HZ12.out; have h4 := HZ13.out; have h5 := HZ14.out; have h6 := HZ15.out; have h7 := HW6z.out; have h8 := HA1.out
    omega)
  have HCM := hid (HMK.out w15 g7 k7 W6.heap.size w7.heap.size 1 (by omega) HS8e.out.hl ⟨HS8e.out.k1, HS8e.out.k2⟩ HS8e.out.lm HS8e.out.ro)
  have HCM1 : Hid (Calls Tryz.prog 12 #[.agg #[.slice (some ⟨g7, 0, none⟩) S.l.length S.l.length, .slice (some ⟨k7, 0, none⟩) S.n S.n], .int .i64 1] w15 fun e w' => (∃ k1 : Nat, k1 ≤ 1 + 3000000000000 ∧ e = .returned (.int .i64 (k1 : Int))) ∧ Btw W6.heap.size w7.heap.size w15 w') := hid (by simpa using HCM.out)
  clear HCM
  go_wp2_with fail
  refine HCM1.out.mono ?_
  rintro e w16 ⟨⟨m16, hm16, rfl⟩, t16⟩
  have HK16 := hid (t16.lowJ HK15.out (Nat.le_refl _) HK15.out.size)
  have HL16 := hid (HS15.out.btw t16 (by have := HZA.out; omega))
  have HSO6 := hid (HSO5.out.same t16.size (fun q h1 h2 => t16.block q (Nat.lt_of_lt_of_le h2 HSO5.out.hl.2) (.inr (by have := HZA.out; omega))))
  have HX10f := hid (HX10e.out.btw t16 (.inr (by have := HZA.out; omega)))
  have HX12f := hid (HX12e.out.btw t16 (.inr (by have := HZA.out; omega)))
  have HZ16 : Hid (w15.heap.size ≤ w16.heap.size) := hid t16.size
  have m2 := HX10f.out.c0
  have m3 := HX10f.out.c1
  clear t16 m0 m1 HCM1 HS8e HX8e HSO5 HX10e HX12e HK15 HMK
  go_wp2_with fail
  refine (HMK'.out w16 g9 k9 w8.heap.size w9.heap.size m16 (by omega) (by have h1 := HZA.out; have h2 := HZ16.out; omega) ⟨HS15.out.k1, HS15.out.k2⟩ HL16.out.1 HL16.out.2).mono ?_
  rintro e w17 ⟨⟨m17, hm17, rfl⟩, t17⟩
  have HK17 := hid (t17.lowJ HK16.out (by have := HZA.out; omega) HK16.out.size)
  have HSO7 := hid (HSO6.out.same t17.size (fun q h1 h2 => t17.block q (Nat.lt_of_lt_of_le h2 HSO6.out.hl.2) (.inr (by have := HZA.out; omega))))
  have HX12g := hid (HX12f.out.btw t17 (.inr (by have := HZA.out; omega)))
  have d17 : decide ((m17 : Int) < 0) = false := by simp
  have r0 := HX12g.out.c0
  have r1 := HX12g.out.c1
  have r2 := (HXW.out.below HK17.out HXW.out.lt).c0
  have r3 := (HXW.out.below HK17.out HXW.out.lt).c1
  clear t17 m2 m3 HL16 HS15 HX10f HSO6 HX12f HK16 HMK'
  go_wp2_with fail
  refine (HEQ.out ja jx sa sx jm jt sm st w17 HSO7.out.at (HNW.out.low HK17.out)).mono ?_
  rintro e w18 ⟨rfl, b18⟩
  have HSO8 := hid (HSO7.out.below b18)
  have HX12h := hid (HX12g.out.below b18 HX12g.out.lt)
  have HK18 := hid (keepS HK17.out b18)
  have r4 := HX12h.out.c0
  have r5 := HX12h.out.c1
  clear b18 r0 r1 r2 r3 HSO7 HX12g HK17
  go_wp2_with fail
  refine (HMO.out w18 ja jx jm jt w10.heap.size w11.heap.size HSO8.out).mono ?_
  rintro e w19 ⟨rfl, t19, mk19⟩
  have HK19 := hid (t19.lowJ HK18.out (by have := HZA.out; omega) HK18.out.size)
  have HX12i := hid (HX12h.out.btw t19 (.inr (Nat.le_refl _)))
  have HCH := hid (HHO.out w19 ja jx jm jt mk19.at)
  have r6 := HX12i.out.c0
  have r7 := HX12i.out.c1
  clear t19 mk19 r4 r5 HSO8 HX12h HK18 HMO HHO
  go_wp2_with fail
  refine HCH.out.mono ?_
  rintro e w20 ⟨rfl, b20⟩
  have HK20 := hid (keepS HK19.out b20)
  have HU2 := hid (HW6.out.trans (HK20.out.mono HW6.out.size))
  have HBA := hid (HBA6.out.below HK20.out HBA6.out.lt)
  have HBB := hid (HBB6.out.below HK20.out HBB6.out.lt)
  have d20 : decide ((M : Int) < 0) = false := by simp
  have d21 : ((M : Int) != (M : Int)) = false := by simp
  clear b20 r6 r7 HCH HX12i HK19 HBA6 HBB6 HSP HIM
  have HSE : Hid (∀ w', Below w20.heap.size w20 w' → (w'.cell? ⟨w.heap.size, 0, none⟩ = some (.slice a S.l.length c) ∧ w'.cell? ⟨w.heap.size, 1, none⟩ = some (.slice x S.n d) ∧ w'.cell? ⟨w.heap.size + 1, 0, none⟩ = some (.slice a' S'.l.length c') ∧ w'.cell? ⟨w.heap.size + 1, 1, none⟩ = some (.slice x' S'.n d'))) := hid (fun w' b => by
    have A1 := HBA.out.below b HBA.out.lt
    have B1 := HBB.out.below b HBB.out.lt
    exact ⟨A1.c0, A1.c1, B1.c0, B1.c1⟩)
  go_wp2_with fail
  apply cutT
  · intro key
    refine wp_region_held_drew (S := fun w' => w'.cell? ⟨w.heap.size, 0, none⟩ = some (.slice a S.l.length c) ∧ w'.cell? ⟨w.heap.size, 1, none⟩ = some (.slice x S.n d) ∧ w'.cell? ⟨w.heap.size + 1, 0, none⟩ = some (.slice a' S'.l.length c') ∧ w'.cell? ⟨w.heap.size + 1, 1, none⟩ = some (.slice x' S'.n d')) (by kernel_rfl) (HSE.out _ (Below.refl _ _).drew) (fun hHeld => ?_)
    refine tk 0 95 ?_ (by kernel_rfl) (by kernel_rfl) (fun _ _ _ h => h) ?_ hHeld ?_
    rotate_left
    · (intro o ho; simp only [gZa, gZb, gZc, gZd] at ho; subst ho; refine Or.inl ⟨by rfl, ?_⟩; intro w hSw; (try dsimp only at hSw); go_simp; try with_reducible rfl)
    try simp only [Act.put, sZa, sZb, sZc]
    refine tk 2 97 ?_ (by kernel_rfl) (by kernel_rfl) (fun _ _ _ h => h) ?_ hHeld ?_
    rotate_left
    · (intro o ho; simp only [gZa, gZb, gZc, gZd] at ho; subst ho; refine Or.inl ⟨by rfl, ?_⟩; intro w hSw; (try dsimp only at hSw); go_simp; try with_reducible rfl)
    try simp only [Act.put, sZa, sZb, sZc]
    obtain ⟨q0, hq0⟩ : ∃ q0, w20.drew = q0 := ⟨_, rfl⟩
    have hB0 : Below w20.heap.size w20 q0 := by rw [← hq0]; exact (Below.refl _ _).drew
    rw [hq0]
    clear hq0
    refine ready2t (i := 1) (d := some 96) (j := 8) (d' := some 15) (by kernel_rfl) (by kernel_rfl) (by kernel_rfl) ?_ ?_
    rotate_left
    · skip
      intro o ho hod K hK; simp only [gZa, gZb, gZc, gZd] at ho; subst ho
      go_simp
      obtain ⟨qx, hqx⟩ : ∃ qx, q0.alloc (.cells #[.slice none 0 0, .slice none 0 0] 35) = qx := ⟨_, rfl⟩
      have hxb : Below q0.heap.size q0 qx := by rw [← hqx]; exact (Below.refl _ _).alloc (Nat.le_refl _) _
      have hxc : Bx2 qx q0.heap.size (.slice none 0 0) (.slice none 0 0) := by rw [← hqx]; exact Bx2.made _ _ _ _
      obtain ⟨A31, hA6⟩ : ∃ A31, q0.heap.size = A31 := ⟨_, rfl⟩
      have hA0 : w20.heap.size ≤ A31 := by have := hB0.size; omega
      have hAe : q0.heap.size ≤ A31 ∧ A31 ≤ q0.heap.size := by omega
      rw [hA6] at hxc ⊢
      rw [hqx]
      clear hqx hA6
      have hBx := keepS hB0 hxb
      have hzx := hxb.size
      refine hK.out _ _ (HSE.out _ hBx) (fun hHeld => ?_)
      clear hK K
      try simp only [Act.put, sZa, sZb, sZc]
      refine call1 (i := 1) (d := some 96) (by kernel_rfl) (by kernel_rfl) ?_
      intro o ho hod K hK; simp only [gZa, gZb, gZc, gZd] at ho; subst ho
      go_simp
      refine (toSt a x c d S _ hm (HSA.out.below (HU2.out.trans (hBx.mono HU2.out.size)))).mono ?_
      rintro e q3 ⟨qg3, qk3, rfl, sn3, qb3⟩
      have hz3 := qb3.size
      replace hxc := hxc.below qb3 hxc.lt
      have hC0 := keepS hBx qb3
      refine hK.out _ _ (HSE.out _ hC0) (fun hHeld => ?_)
      clear hK K
      try simp only [Act.put, sZa, sZb, sZc]
      refine call1 (i := 3) (d := some 98) (by kernel_rfl) (by kernel_rfl) ?_
      intro o ho hod K hK; simp only [gZa, gZb, gZc, gZd] at ho; subst ho
      go_simp
      refine (toSt a' x' c' d' S' _ hm' (HSB.out.below (HU2.out.trans (hC0.mono HU2.out.size)))).mono ?_
      rintro e q4 ⟨qg4, qk4, rfl, sn4, qb4⟩
      have hz4 := qb4.size
      replace sn3 := sn3.below qb4
      replace hxc := hxc.below qb4 hxc.lt
      have hC1 := keepS hC0 qb4
      refine hK.out _ _ (HSE.out _ hC1) (fun hHeld => ?_)
      clear hK K
      try simp only [Act.put, sZa, sZb, sZc]
      refine call1 (i := 4) (d := some 99) (by kernel_rfl) (by kernel_rfl) ?_
      intro o ho hod K hK; simp only [gZa, gZb, gZc, gZd] at ho; subst ho
      go_simp
      have hBn := hC1
      have hAl := hxc.lt
      refine (HIN.out (some ⟨qg3, 0, none⟩) (some ⟨qk3, 0, none⟩) (some ⟨qg4, 0, none⟩) (some ⟨qk4, 0, none⟩) _ sn3.at sn4.at).mono ?_
      rintro e q5 ⟨ta, tm, tx, tt, rfl, sn5, qb5⟩
      have hz5 := qb5.size
      replace hxc := hxc.below qb5 hxc.lt
      have hC2 := keepS hC1 qb5
      refine hK.out _ _ (HSE.out _ hC2) (fun hHeld => ?_)
      clear hK K
      try simp only [Act.put, sZa, sZb, sZc]
      refine tk 5 94 ?_ (by kernel_rfl) (by kernel_rfl) (fun _ _ _ h => h) ?_ hHeld ?_
      rotate_left
      · (intro o ho; simp only [gZa, gZb, gZc, gZd] at ho; subst ho; refine Or.inl ⟨by rfl, ?_⟩; intro w hSw; (try dsimp only at hSw); go_simp; try with_reducible rfl)
      try simp only [Act.put, sZa, sZb, sZc]
      refine tk 6 100 ?_ (by kernel_rfl) (by kernel_rfl) (fun _ _ _ h => h) ?_ hHeld ?_
      rotate_left
      · (intro o ho; simp only [gZa, gZb, gZc, gZd] at ho; subst ho; refine Or.inl ⟨by rfl, ?_⟩; intro w hSw; (try dsimp only at hSw); go_simp; try with_reducible rfl)
      try simp only [Act.put, sZa, sZb, sZc]
      refine tk 7 101 ?_ (by kernel_rfl) (by kernel_rfl) (fun _ _ _ h => h) ?_ hHeld ?_
      rotate_left
      · (intro o ho; simp only [gZa, gZb, gZc, gZd] at ho; subst ho; refine Or.inl ⟨by rfl, ?_⟩; intro w hSw; (try dsimp only at hSw); go_simp; try with_reducible rfl)
      try simp only [Act.put, sZa, sZb, sZc]
      have xc0 := hxc.c0
      have xc1 := hxc.c1
      have xcf := hxc.f
      refine call1 (i := 9) (d := none) (by kernel_rfl) (by kernel_rfl) ?_
      intro o ho hod K hK; simp only [gZa, gZb, gZc, gZd] at ho; subst ho
      go_simp
      obtain ⟨W31, hW6⟩ : ∃ W31, (q5.setCell ⟨A31, 0, none⟩ (.slice ta JL tm)).setCell ⟨A31, 1, none⟩ (.slice tx JU tt) = W31 := ⟨_, rfl⟩
      have hB7 : Below w20.heap.size w20 W31 := by rw [← hW6]; exact (hC2.setCell (p := ⟨A31, 0, none⟩) hA0 _).setCell (p := ⟨A31, 1, none⟩) hA0 _
      have hx7 : Bx2 W31 A31 (.slice ta JL tm) (.slice tx JU tt) := by rw [← hW6]; exact hxc.set _ _
      have hz7 : W31.heap.size = q5.heap.size := by rw [← hW6]; simp [World.setCell]
      have hN7 : SNj W31 w20.heap.size ta tx (jnZ S S') := sn5.box (A := A31) (by have := hBn.size; omega) (by omega) (by omega) (fun g g1 g2 => by
        rw [← hW6, Below.heap_setCell _ _ _ _ g1, Below.heap_setCell _ _ _ _ g1])
      rw [hW6]
      refine hK.out _ _ (HSE.out _ hB7) (fun hHeld => ?_)
      clear hK K
      try simp only [Act.put, sZa, sZb, sZc]
      refine tk 10 16 ?_ (by kernel_rfl) (by kernel_rfl) (fun _ _ _ h => h) ?_ hHeld ?_
      rotate_left
      · (intro o ho; simp only [gZa, gZb, gZc, gZd] at ho; subst ho; refine Or.inl ⟨by rfl, ?_⟩; intro w hSw; (try dsimp only at hSw); go_simp; try with_reducible rfl)
      try simp only [Act.put, sZa, sZb, sZc]
      refine wpAnyH_done (by kernel_rfl) ?_ _
      have hP : w20.heap.size ≤ A31 ∧ A31 < W31.heap.size ∧ Below w20.heap.size w20 W31 ∧ Bx2 W31 A31 (.slice ta JL tm) (.slice tx JU tt) ∧ SNj W31 w20.heap.size ta tx (jnZ S S') := ⟨hA0, hx7.lt, hB7, hx7, hN7⟩
      try clear hHeld
      try clear hW6
      try clear hz7
      try clear xc0
      try clear xc1
      try clear xcf
      try clear hxc
      try clear hAe
      try clear hxb
      try clear hA0
      try clear hB7
      try clear hx7
      try clear hN7
      try clear sn3
      try clear sn4
      try clear sn5
      try clear hBn
      try clear hB0
      try clear hBx
      try clear hB6
      try clear hC0
      try clear hC1
      try clear hC2
      try clear qb3
      try clear qb4
      try clear qb5
      try clear hz3
      try clear hz4
      try clear hz5
      try clear hAl
      try clear hzx
      revert hP
      revert A31 qg3 qk3 qg4 qk4 ta tm tx tt W31
      exact key.out
    · skip
      intro o ho hod K hK; simp only [gZa, gZb, gZc, gZd] at ho; subst ho
      go_simp
      refine (toSt a x c d S _ hm (HSA.out.below (HU2.out.trans (hB0.mono HU2.out.size)))).mono ?_
      rintro e q3 ⟨qg3, qk3, rfl, sn3, qb3⟩
      have hz3 := qb3.size
      have hC0 := keepS hB0 qb3
      refine hK.out _ _ (HSE.out _ hC0) (fun hHeld => ?_)
      clear hK K
      try simp only [Act.put, sZa, sZb, sZc]
      refine ready2t (i := 3) (d := some 98) (j := 8) (d' := some 15) (by kernel_rfl) (by kernel_rfl) (by kernel_rfl) ?_ ?_
      rotate_left
      · skip
        intro o ho hod K hK; simp only [gZa, gZb, gZc, gZd] at ho; subst ho
        go_simp
        obtain ⟨qx, hqx⟩ : ∃ qx, q3.alloc (.cells #[.slice none 0 0, .slice none 0 0] 35) = qx := ⟨_, rfl⟩
        have hxb : Below q3.heap.size q3 qx := by rw [← hqx]; exact (Below.refl _ _).alloc (Nat.le_refl _) _
        have hxc : Bx2 qx q3.heap.size (.slice none 0 0) (.slice none 0 0) := by rw [← hqx]; exact Bx2.made _ _ _ _
        obtain ⟨A31, hA6⟩ : ∃ A31, q3.heap.size = A31 := ⟨_, rfl⟩
        have hA0 : w20.heap.size ≤ A31 := by have := hC0.size; omega
        have hAe : q3.heap.size ≤ A31 ∧ A31 ≤ q3.heap.size := by omega
        rw [hA6] at hxc ⊢
        rw [hqx]
        clear hqx hA6
        have hBx := keepS hC0 hxb
        have hzx := hxb.size
        replace sn3 := sn3.below hxb
        refine hK.out _ _ (HSE.out _ hBx) (fun hHeld => ?_)
        clear hK K
        try simp only [Act.put, sZa, sZb, sZc]
        refine call1 (i := 3) (d := some 98) (by kernel_rfl) (by kernel_rfl) ?_
        intro o ho hod K hK; simp only [gZa, gZb, gZc, gZd] at ho; subst ho
        go_simp
        refine (toSt a' x' c' d' S' _ hm' (HSB.out.below (HU2.out.trans (hBx.mono HU2.out.size)))).mono ?_
        rintro e q4 ⟨qg4, qk4, rfl, sn4, qb4⟩
        have hz4 := qb4.size
        replace sn3 := sn3.below qb4
        replace hxc := hxc.below qb4 hxc.lt
        have hC1 := keepS hBx qb4
        refine hK.out _ _ (HSE.out _ hC1) (fun hHeld => ?_)
        clear hK K
        try simp only [Act.put, sZa, sZb, sZc]
        refine call1 (i := 4) (d := some 99) (by kernel_rfl) (by kernel_rfl) ?_
        intro o ho hod K hK; simp only [gZa, gZb, gZc, gZd] at ho; subst ho
        go_simp
        have hBn := hC1
        have hAl := hxc.lt
        refine (HIN.out (some ⟨qg3, 0, none⟩) (some ⟨qk3, 0, none⟩) (some ⟨qg4, 0, none⟩) (some ⟨qk4, 0, none⟩) _ sn3.at sn4.at).mono ?_
        rintro e q5 ⟨ta, tm, tx, tt, rfl, sn5, qb5⟩
        have hz5 := qb5.size
        replace hxc := hxc.below qb5 hxc.lt
        have hC2 := keepS hC1 qb5
        refine hK.out _ _ (HSE.out _ hC2) (fun hHeld => ?_)
        clear hK K
        try simp only [Act.put, sZa, sZb, sZc]
        refine tk 5 94 ?_ (by kernel_rfl) (by kernel_rfl) (fun _ _ _ h => h) ?_ hHeld ?_
        rotate_left
        · (intro o ho; simp only [gZa, gZb, gZc, gZd] at ho; subst ho; refine Or.inl ⟨by rfl, ?_⟩; intro w hSw; (try dsimp only at hSw); go_simp; try with_reducible rfl)
        try simp only [Act.put, sZa, sZb, sZc]
        refine tk 6 100 ?_ (by kernel_rfl) (by kernel_rfl) (fun _ _ _ h => h) ?_ hHeld ?_
        rotate_left
        · (intro o ho; simp only [gZa, gZb, gZc, gZd] at ho; subst ho; refine Or.inl ⟨by rfl, ?_⟩; intro w hSw; (try dsimp only at hSw); go_simp; try with_reducible rfl)
        try simp only [Act.put, sZa, sZb, sZc]
        refine tk 7 101 ?_ (by kernel_rfl) (by kernel_rfl) (fun _ _ _ h => h) ?_ hHeld ?_
        rotate_left
        · (intro o ho; simp only [gZa, gZb, gZc, gZd] at ho; subst ho; refine Or.inl ⟨by rfl, ?_⟩; intro w hSw; (try dsimp only at hSw); go_simp; try with_reducible rfl)
        try simp only [Act.put, sZa, sZb, sZc]
        have xc0 := hxc.c0
        have xc1 := hxc.c1
        have xcf := hxc.f
        refine call1 (i := 9) (d := none) (by kernel_rfl) (by kernel_rfl) ?_
        intro o ho hod K hK; simp only [gZa, gZb, gZc, gZd] at ho; subst ho
        go_simp
        obtain ⟨W31, hW6⟩ : ∃ W31, (q5.setCell ⟨A31, 0, none⟩ (.slice ta JL tm)).setCell ⟨A31, 1, none⟩ (.slice tx JU tt) = W31 := ⟨_, rfl⟩
        have hB7 : Below w20.heap.size w20 W31 := by rw [← hW6]; exact (hC2.setCell (p := ⟨A31, 0, none⟩) hA0 _).setCell (p := ⟨A31, 1, none⟩) hA0 _
        have hx7 : Bx2 W31 A31 (.slice ta JL tm) (.slice tx JU tt) := by rw [← hW6]; exact hxc.set _ _
        have hz7 : W31.heap.size = q5.heap.size := by rw [← hW6]; simp [World.setCell]
        have hN7 : SNj W31 w20.heap.size ta tx (jnZ S S') := sn5.box (A := A31) (by have := hBn.size; omega) (by omega) (by omega) (fun g g1 g2 => by
          rw [← hW6, Below.heap_setCell _ _ _ _ g1, Below.heap_setCell _ _ _ _ g1])
        rw [hW6]
        refine hK.out _ _ (HSE.out _ hB7) (fun hHeld => ?_)
        clear hK K
        try simp only [Act.put, sZa, sZb, sZc]
        refine tk 10 16 ?_ (by kernel_rfl) (by kernel_rfl) (fun _ _ _ h => h) ?_ hHeld ?_
        rotate_left
        · (intro o ho; simp only [gZa, gZb, gZc, gZd] at ho; subst ho; refine Or.inl ⟨by rfl, ?_⟩; intro w hSw; (try dsimp only at hSw); go_simp; try with_reducible rfl)
        try simp only [Act.put, sZa, sZb, sZc]
        refine wpAnyH_done (by kernel_rfl) ?_ _
        have hP : w20.heap.size ≤ A31 ∧ A31 < W31.heap.size ∧ Below w20.heap.size w20 W31 ∧ Bx2 W31 A31 (.slice ta JL tm) (.slice tx JU tt) ∧ SNj W31 w20.heap.size ta tx (jnZ S S') := ⟨hA0, hx7.lt, hB7, hx7, hN7⟩
        exact key.out A31 qg3 qk3 qg4 qk4 ta tm tx tt W31 hP
      · skip
        intro o ho hod K hK; simp only [gZa, gZb, gZc, gZd] at ho; subst ho
        go_simp
        refine (toSt a' x' c' d' S' _ hm' (HSB.out.below (HU2.out.trans (hC0.mono HU2.out.size)))).mono ?_
        rintro e q4 ⟨qg4, qk4, rfl, sn4, qb4⟩
        have hz4 := qb4.size
        replace sn3 := sn3.below qb4
        have hC1 := keepS hC0 qb4
        refine hK.out _ _ (HSE.out _ hC1) (fun hHeld => ?_)
        clear hK K
        try simp only [Act.put, sZa, sZb, sZc]
        refine ready2t (i := 4) (d := some 99) (j := 8) (d' := some 15) (by kernel_rfl) (by kernel_rfl) (by kernel_rfl) ?_ ?_
        rotate_left
        · skip
          intro o ho hod K hK; simp only [gZa, gZb, gZc, gZd] at ho; subst ho
          go_simp
          obtain ⟨qx, hqx⟩ : ∃ qx, q4.alloc (.cells #[.slice none 0 0, .slice none 0 0] 35) = qx := ⟨_, rfl⟩
          have hxb : Below q4.heap.size q4 qx := by rw [← hqx]; exact (Below.refl _ _).alloc (Nat.le_refl _) _
          have hxc : Bx2 qx q4.heap.size (.slice none 0 0) (.slice none 0 0) := by rw [← hqx]; exact Bx2.made _ _ _ _
          obtain ⟨A31, hA6⟩ : ∃ A31, q4.heap.size = A31 := ⟨_, rfl⟩
          have hA0 : w20.heap.size ≤ A31 := by have := hC1.size; omega
          have hAe : q4.heap.size ≤ A31 ∧ A31 ≤ q4.heap.size := by omega
          rw [hA6] at hxc ⊢
          rw [hqx]
          clear hqx hA6
          have hBx := keepS hC1 hxb
          have hzx := hxb.size
          replace sn3 := sn3.below hxb
          replace sn4 := sn4.below hxb
          refine hK.out _ _ (HSE.out _ hBx) (fun hHeld => ?_)
          clear hK K
          try simp only [Act.put, sZa, sZb, sZc]
          refine call1 (i := 4) (d := some 99) (by kernel_rfl) (by kernel_rfl) ?_
          intro o ho hod K hK; simp only [gZa, gZb, gZc, gZd] at ho; subst ho
          go_simp
          have hBn := hBx
          have hAl := hxc.lt
          refine (HIN.out (some ⟨qg3, 0, none⟩) (some ⟨qk3, 0, none⟩) (some ⟨qg4, 0, none⟩) (some ⟨qk4, 0, none⟩) _ sn3.at sn4.at).mono ?_
          rintro e q5 ⟨ta, tm, tx, tt, rfl, sn5, qb5⟩
          have hz5 := qb5.size
          replace hxc := hxc.below qb5 hxc.lt
          have hC2 := keepS hBx qb5
          refine hK.out _ _ (HSE.out _ hC2) (fun hHeld => ?_)
          clear hK K
          try simp only [Act.put, sZa, sZb, sZc]
          refine tk 5 94 ?_ (by kernel_rfl) (by kernel_rfl) (fun _ _ _ h => h) ?_ hHeld ?_
          rotate_left
          · (intro o ho; simp only [gZa, gZb, gZc, gZd] at ho; subst ho; refine Or.inl ⟨by rfl, ?_⟩; intro w hSw; (try dsimp only at hSw); go_simp; try with_reducible rfl)
          try simp only [Act.put, sZa, sZb, sZc]
          refine tk 6 100 ?_ (by kernel_rfl) (by kernel_rfl) (fun _ _ _ h => h) ?_ hHeld ?_
          rotate_left
          · (intro o ho; simp only [gZa, gZb, gZc, gZd] at ho; subst ho; refine Or.inl ⟨by rfl, ?_⟩; intro w hSw; (try dsimp only at hSw); go_simp; try with_reducible rfl)
          try simp only [Act.put, sZa, sZb, sZc]
          refine tk 7 101 ?_ (by kernel_rfl) (by kernel_rfl) (fun _ _ _ h => h) ?_ hHeld ?_
          rotate_left
          · (intro o ho; simp only [gZa, gZb, gZc, gZd] at ho; subst ho; refine Or.inl ⟨by rfl, ?_⟩; intro w hSw; (try dsimp only at hSw); go_simp; try with_reducible rfl)
          try simp only [Act.put, sZa, sZb, sZc]
          have xc0 := hxc.c0
          have xc1 := hxc.c1
          have xcf := hxc.f
          refine call1 (i := 9) (d := none) (by kernel_rfl) (by kernel_rfl) ?_
          intro o ho hod K hK; simp only [gZa, gZb, gZc, gZd] at ho; subst ho
          go_simp
          obtain ⟨W31, hW6⟩ : ∃ W31, (q5.setCell ⟨A31, 0, none⟩ (.slice ta JL tm)).setCell ⟨A31, 1, none⟩ (.slice tx JU tt) = W31 := ⟨_, rfl⟩
          have hB7 : Below w20.heap.size w20 W31 := by rw [← hW6]; exact (hC2.setCell (p := ⟨A31, 0, none⟩) hA0 _).setCell (p := ⟨A31, 1, none⟩) hA0 _
          have hx7 : Bx2 W31 A31 (.slice ta JL tm) (.slice tx JU tt) := by rw [← hW6]; exact hxc.set _ _
          have hz7 : W31.heap.size = q5.heap.size := by rw [← hW6]; simp [World.setCell]
          have hN7 : SNj W31 w20.heap.size ta tx (jnZ S S') := sn5.box (A := A31) (by have := hBn.size; omega) (by omega) (by omega) (fun g g1 g2 => by
            rw [← hW6, Below.heap_setCell _ _ _ _ g1, Below.heap_setCell _ _ _ _ g1])
          rw [hW6]
          refine hK.out _ _ (HSE.out _ hB7) (fun hHeld => ?_)
          clear hK K
          try simp only [Act.put, sZa, sZb, sZc]
          refine tk 10 16 ?_ (by kernel_rfl) (by kernel_rfl) (fun _ _ _ h => h) ?_ hHeld ?_
          rotate_left
          · (intro o ho; simp only [gZa, gZb, gZc, gZd] at ho; subst ho; refine Or.inl ⟨by rfl, ?_⟩; intro w hSw; (try dsimp only at hSw); go_simp; try with_reducible rfl)
          try simp only [Act.put, sZa, sZb, sZc]
          refine wpAnyH_done (by kernel_rfl) ?_ _
          have hP : w20.heap.size ≤ A31 ∧ A31 < W31.heap.size ∧ Below w20.heap.size w20 W31 ∧ Bx2 W31 A31 (.slice ta JL tm) (.slice tx JU tt) ∧ SNj W31 w20.heap.size ta tx (jnZ S S') := ⟨hA0, hx7.lt, hB7, hx7, hN7⟩
          exact key.out A31 qg3 qk3 qg4 qk4 ta tm tx tt W31 hP
        · skip
          intro o ho hod K hK; simp only [gZa, gZb, gZc, gZd] at ho; subst ho
          go_simp
          have hBn := hC1
          refine (HIN.out (some ⟨qg3, 0, none⟩) (some ⟨qk3, 0, none⟩) (some ⟨qg4, 0, none⟩) (some ⟨qk4, 0, none⟩) _ sn3.at sn4.at).mono ?_
          rintro e q5 ⟨ta, tm, tx, tt, rfl, sn5, qb5⟩
          have hz5 := qb5.size
          have hC2 := keepS hC1 qb5
          refine hK.out _ _ (HSE.out _ hC2) (fun hHeld => ?_)
          clear hK K
          try simp only [Act.put, sZa, sZb, sZc]
          refine tk 5 94 ?_ (by kernel_rfl) (by kernel_rfl) (fun _ _ _ h => h) ?_ hHeld ?_
          rotate_left
          · (intro o ho; simp only [gZa, gZb, gZc, gZd] at ho; subst ho; refine Or.inl ⟨by rfl, ?_⟩; intro w hSw; (try dsimp only at hSw); go_simp; try with_reducible rfl)
          try simp only [Act.put, sZa, sZb, sZc]
          refine tk 6 100 ?_ (by kernel_rfl) (by kernel_rfl) (fun _ _ _ h => h) ?_ hHeld ?_
          rotate_left
          · (intro o ho; simp only [gZa, gZb, gZc, gZd] at ho; subst ho; refine Or.inl ⟨by rfl, ?_⟩; intro w hSw; (try dsimp only at hSw); go_simp; try with_reducible rfl)
          try simp only [Act.put, sZa, sZb, sZc]
          refine tk 7 101 ?_ (by kernel_rfl) (by kernel_rfl) (fun _ _ _ h => h) ?_ hHeld ?_
          rotate_left
          · (intro o ho; simp only [gZa, gZb, gZc, gZd] at ho; subst ho; refine Or.inl ⟨by rfl, ?_⟩; intro w hSw; (try dsimp only at hSw); go_simp; try with_reducible rfl)
          try simp only [Act.put, sZa, sZb, sZc]
          refine call1 (i := 8) (d := some 15) (by kernel_rfl) (by kernel_rfl) ?_
          intro o ho hod K hK; simp only [gZa, gZb, gZc, gZd] at ho; subst ho
          go_simp
          obtain ⟨qx, hqx⟩ : ∃ qx, q5.alloc (.cells #[.slice none 0 0, .slice none 0 0] 35) = qx := ⟨_, rfl⟩
          have hxb : Below q5.heap.size q5 qx := by rw [← hqx]; exact (Below.refl _ _).alloc (Nat.le_refl _) _
          have hxc : Bx2 qx q5.heap.size (.slice none 0 0) (.slice none 0 0) := by rw [← hqx]; exact Bx2.made _ _ _ _
          obtain ⟨A31, hA6⟩ : ∃ A31, q5.heap.size = A31 := ⟨_, rfl⟩
          have hA0 : w20.heap.size ≤ A31 := by have := hC2.size; omega
          have hAe : q5.heap.size ≤ A31 ∧ A31 ≤ q5.heap.size := by omega
          rw [hA6] at hxc ⊢
          rw [hqx]
          clear hqx hA6
          have hB6 := keepS hC2 hxb
          have hzx := hxb.size
          refine hK.out _ _ (HSE.out _ hB6) (fun hHeld => ?_)
          clear hK K
          try simp only [Act.put, sZa, sZb, sZc]
          have xc0 := hxc.c0
          have xc1 := hxc.c1
          have xcf := hxc.f
          refine call1 (i := 9) (d := none) (by kernel_rfl) (by kernel_rfl) ?_
          intro o ho hod K hK; simp only [gZa, gZb, gZc, gZd] at ho; subst ho
          go_simp
          obtain ⟨W31, hW6⟩ : ∃ W31, (qx.setCell ⟨A31, 0, none⟩ (.slice ta JL tm)).setCell ⟨A31, 1, none⟩ (.slice tx JU tt) = W31 := ⟨_, rfl⟩
          have hB7 : Below w20.heap.size w20 W31 := by rw [← hW6]; exact (hB6.setCell (p := ⟨A31, 0, none⟩) hA0 _).setCell (p := ⟨A31, 1, none⟩) hA0 _
          have hx7 : Bx2 W31 A31 (.slice ta JL tm) (.slice tx JU tt) := by rw [← hW6]; exact hxc.set _ _
          have hz7 : W31.heap.size = qx.heap.size := by rw [← hW6]; simp [World.setCell]
          have hN7 : SNj W31 w20.heap.size ta tx (jnZ S S') := sn5.box (A := A31) (by have := hBn.size; omega) (by omega) (by omega) (fun g g1 g2 => by
            rw [← hW6, Below.heap_setCell _ _ _ _ g1, Below.heap_setCell _ _ _ _ g1]
            exact hxb.block g g2)
          rw [hW6]
          refine hK.out _ _ (HSE.out _ hB7) (fun hHeld => ?_)
          clear hK K
          try simp only [Act.put, sZa, sZb, sZc]
          refine tk 10 16 ?_ (by kernel_rfl) (by kernel_rfl) (fun _ _ _ h => h) ?_ hHeld ?_
          rotate_left
          · (intro o ho; simp only [gZa, gZb, gZc, gZd] at ho; subst ho; refine Or.inl ⟨by rfl, ?_⟩; intro w hSw; (try dsimp only at hSw); go_simp; try with_reducible rfl)
          try simp only [Act.put, sZa, sZb, sZc]
          refine wpAnyH_done (by kernel_rfl) ?_ _
          have hP : w20.heap.size ≤ A31 ∧ A31 < W31.heap.size ∧ Below w20.heap.size w20 W31 ∧ Bx2 W31 A31 (.slice ta JL tm) (.slice tx JU tt) ∧ SNj W31 w20.heap.size ta tx (jnZ S S') := ⟨hA0, hx7.lt, hB7, hx7, hN7⟩
          exact key.out A31 qg3 qk3 qg4 qk4 ta tm tx tt W31 hP
  intro A31 qg3 qk3 qg4 qk4 ta tm tx tt W31 hP
  clear HSE
  obtain ⟨hA0, hA1, hB31, hx31, hN31⟩ := hP
  have HK31 := hid (keepS HK20.out hB31)
  have HN31 := hid hN31
  have r0 := hx31.c0
  have r1 := hx31.c1
  have r2 := (HXW.out.below HK31.out HXW.out.lt).c0
  have r3 := (HXW.out.below HK31.out HXW.out.lt).c1
  clear hA0 hA1 hB31 hx31 hN31
  go_wp2_with fail
  refine (HEQ.out ta tx sa sx tm tt sm st W31 HN31.out.at (HNW.out.low HK31.out)).mono ?_
  rintro e w32 ⟨rfl, b32⟩
  have HB32 := hid (HW6.out.trans ((keepS HK31.out b32).mono HW6.out.size))
  clear b32 r0 r1 r2 r3
  go_wp2_with fail
  go_ret
  exact ⟨rfl, HB32.out⟩
theorem own : ownKnob Tryz.prog.godebug = none := by kernel_rfl
theorem laidOut : laidOutB Tryz.prog = true := by kernel_rfl
set_option maxRecDepth 100000 in
theorem lifted (os : Os) (started : os.Started) (H : Type) (enc : TypeId × Value → H) :
    ReturnsInHanded {} Tryz.checked os 4 .any (Rows.fnExactJoinSpec.pre6 enc Tryz.prog Tryz.f4 Rows.fnExactJoinRow.domain false) (Rows.fnExactJoinSpec.post enc Tryz.prog Tryz.f4 false true false false) := by
  refine returnsInHanded_of_change (C := Tryz.checked) own started (by kernel_rfl) Tryz.func4
    (ChangeSpec.witness6 (enc := enc) (C := Tryz.checked) false ⟨#[], #[.agg #[.slice none 0 0, .slice none 0 0], .agg #[.slice none 0 0, .slice none 0 0]], []⟩ 8 (by kernel_rfl) (by kernel_rfl) (by kernel_rfl) (by kernel_rfl)) ?_
  intro W base args ds gs before hval0 hW hcnd _
  have hval : ∀ (j : Nat) t v, Tryz.f4.params[j]? = some t → args[j]? = some v → Value.okWide Tryz.prog W .any base t v := hval0
  have hW' := hW
  obtain ⟨p, q, hA0, hV, rfl, hfz, hnd⟩ := hW
  have hA : DataW.TrodAll enc Tryz.prog W 0 (fun _ => true) true Tryz.f4.params.toList args.toList ds p := hA0
  rw [Tryz.params4] at hA hval
  obtain ⟨v0, vs0, d0, ds0, p0, q0, hargs, rfl, rfl, h0, r0⟩ := trodAll_cons hA
  obtain ⟨v1, vs1, d1, ds1, p1, q1, hargs1, rfl, rfl, h1, r1⟩ := trodAll_cons r0
  obtain ⟨rfl, rfl, rfl⟩ := trodAll_nil r1
  subst hargs1
  obtain rfl : args = #[v0, v1] := by cases args; simp_all
  obtain ⟨rfl, rfl⟩ := trodVars_none hV
  have k0 := h0
  have k1 := h1
  have lt0 : ∀ x ∈ p0, x.block < W.heap.size := by obtain ⟨m, hm⟩ := k0; exact DataW.trod_lt m _ _ _ hm
  have lt1 : ∀ x ∈ p1, x.block < W.heap.size := by obtain ⟨m, hm⟩ := k1; exact DataW.trod_lt m _ _ _ hm
  obtain ⟨a0, c0, l0, x0, n0, e0, R0, F0, T0, rfl, hl0, w0, hb0, hi0, hn0, w1, _, _, _⟩ := openState (hval 0 27 v0 rfl rfl) h0
  obtain ⟨a1, c1, l1, x1, n1, e1, R1, F1, T1, rfl, hl1, w2, hb1, hi1, hn1, w3, _, _, _⟩ := openState (hval 1 27 v1 rfl rfl) h1
  clear hA0 hval0
  refine (walk a0 x0 a1 x1 c0 e0 c1 e1 ⟨l0, n0, R0, F0, T0⟩ ⟨l1, n1, R1, F1, T1⟩ W ⟨hl0, hb0, hi0, hn0⟩ ⟨hl1, hb1, hi1, hn1⟩ ⟨w0, w1⟩ ⟨w2, w3⟩).mono fun e W' ⟨he, bel⟩ => ?_
  subst he
  exact ⟨_, rfl, _, _, _, [], _, [], hW', trodAll_mk1 (shut_bool Tryz.underlying4 _), (trodAll_cons_mk (Below.trod laidOut (by kernel_rfl) (of_decide_eq_true (by kernel_rfl)) k0 bel lt0) (trodAll_cons_mk (Below.trod laidOut (by kernel_rfl) (of_decide_eq_true (by kernel_rfl)) k1 bel lt1) trodAll_mk0)), rfl, bel.frame _, fun h => by cases h⟩
theorem over : Rows.fnExactJoinRow.holds Tryz.pinned (OpenSpec.ofChange Rows.fnExactJoinSpec) :=
  OpenClaim.holds_of_wide 4 Tryz.f4 rfl rfl rfl rfl rfl rfl rfl ⟨rfl, rfl, rfl, rfl, rfl⟩ rfl rfl rfl rfl rfl (by kernel_rfl) Tryz.func4 (by kernel_rfl)
    (of_decide_eq_true (by kernel_rfl)) (by unfold Func.isWrapper; first | (rw [if_pos (by decide +kernel)]; kernel_rfl) | (rw [if_neg (by decide +kernel)]; exact ⟨rfl, rfl⟩))
    (fun os started H enc _ => lifted os started H enc)
end Go.Proofs.YtbocofbigjbhgaaGreat.fnExactJoin
namespace Go.Proofs.YtbocofbigjbhgaaGreat
theorem joinHolds : Rows.FnExactJoinSaid := fnExactJoin.over
#print axioms joinHolds
end Go.Proofs.YtbocofbigjbhgaaGreat

