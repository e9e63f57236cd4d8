import Derived.Test.YtbocofbigjbhgaaGreatNg40
import Derived.Test.YtbocofbigjbhgaaGreatNg15
set_option linter.unusedVariables false
set_option linter.unusedSimpArgs false

namespace Go.Proofs.YtbocofbigjbhgaaGreat.fnExactAtMost
open Go.ChangeShapes Go.WideShapes Go.ChangeAt Go.RowKit
theorem cutT {G T : Prop} (h : Hid T → G) (k : T) : G := h k
set_option maxRecDepth 100000 in
set_option maxHeartbeats 20000000 in
theorem walk (a x a' x' : Option Addr) (c d c' d' : Nat) (S S' : Sx) (w : World) (hb : S.Big) (hb' : S'.Big) (h : SAt w a x S) (h' : SAt w a' x' S') :
    Calls Tryz.prog 3 #[.agg #[.slice a S.l.length c, .slice x S.n d], .agg #[.slice a' S'.l.length c', .slice x' S'.n d']] w fun e w' => e = .returned (.bool true) ∧ Below w.heap.size w w' := by
  obtain ⟨W, hW⟩ : ∃ W, (w.alloc (.cells #[.slice a S.l.length c, .slice x S.n d] 27)).alloc (.cells #[.slice a' S'.l.length c', .slice x' S'.n d'] 27) = W := ⟨_, rfl⟩
  have b0 : Below w.heap.size w W := by rw [← hW]; exact below2 _ _ _
  have A0 : Bx2 W w.heap.size (.slice a S.l.length c) (.slice x S.n d) := by rw [← hW]; exact (Bx2.made w _ _ _).allocs _
  have B0 : Bx2 W (w.heap.size + 1) (.slice a' S'.l.length c') (.slice x' S'.n d') := by
    rw [← hW]
    simpa using Bx2.made (w.alloc (.cells #[.slice a S.l.length c, .slice x S.n d] 27)) (.slice a' S'.l.length c') (.slice x' S'.n d') 27
  have HSZ := hid (szStateC a c S.l x S.n d 1048576 W (by omega) (by omega) hb.l1 hb.n1 hb.b1 (h.below b0).lf)
  have HSA := hid h
  have HSB := hid h'
  have HIA := hid hb.i1
  have HIB := hid hb'.i1
  have HBG := hid hb'
  have HB0 := hid b0
  have HBA0 := hid A0
  have HBB0 := hid B0
  have k0 := A0.c0
  have k1 := A0.c1
  clear h h' b0 A0 B0 hb hb'
  go_enter Tryz.func3, Tryz.ntmps3
  go_wp2_with fail
  try rw [hW]
  clear hW
  refine HSZ.out.mono ?_
  rintro e w1 ⟨⟨k', rfl, hk0, hk1, hsm⟩, b1⟩
  have HBA1 := hid (HBA0.out.below b1 HBA0.out.lt)
  have HBB1 := hid (HBB0.out.below b1 HBB0.out.lt)
  have HB1 := hid (keepS HB0.out b1)
  have HSM := hid hsm
  clear hsm b1 HSZ HB0 k0 k1 HBA0 HBB0
  by_cases hneg : k' < 0
  case pos =>
    have d0 : decide (k' < 0) = true := by simpa using hneg
    clear HSM
    go_wp2_with fail
    go_ret
    exact ⟨rfl, HB1.out⟩
  have d0 : decide (k' < 0) = false := by simpa using hneg
  have hm : S.Sm := by
    obtain ⟨⟨hl, hlf⟩, hr⟩ := HSM.out (by omega)
    exact ⟨hl, fun i => (hlf i).1.1, hr⟩
  have HSZ2 := hid (szStateC a' c' S'.l x' S'.n d' k' w1 (by omega) (by omega) HBG.out.l1 HBG.out.n1 HBG.out.b1 (HSB.out.below HB1.out).lf)
  have k0 := HBB1.out.c0
  have k1 := HBB1.out.c1
  clear HSM
  go_wp2_with fail
  refine HSZ2.out.mono ?_
  rintro e U ⟨⟨k2, rfl, hk20, hk21, hsm⟩, b1⟩
  have HBA := hid (HBA1.out.below b1 HBA1.out.lt)
  have HBB := hid (HBB1.out.below b1 HBB1.out.lt)
  have HU := hid (keepS HB1.out b1)
  have HSM := hid hsm
  clear hsm b1 HSZ2 HB1 k0 k1 HBA1 HBB1
  by_cases hneg2 : k2 < 0
  case pos =>
    have d2 : decide (k2 < 0) = true := by simpa using hneg2
    clear HSM
    go_wp2_with fail
    go_ret
    exact ⟨rfl, HU.out⟩
  have d2 : decide (k2 < 0) = false := by simpa using hneg2
  have hm' : S'.Sm := by
    obtain ⟨⟨hl, hlf⟩, hr⟩ := HSM.out (by omega)
    exact ⟨hl, fun i => (hlf i).1.1, hr⟩
  obtain ⟨V, hV⟩ : ∃ V, amB S S' = V := ⟨_, rfl⟩
  have HSP : Hid (∀ (g k g' k' lo hi lo' hi' : Nat) (w : World), SNw w lo hi g k S → SNw w lo' hi' g' k' S' → Calls Tryz.prog 6 #[.agg #[.slice (some ⟨g, 0, none⟩) S.l.length S.l.length, .slice (some ⟨k, 0, none⟩) S.n S.n], .agg #[.slice (some ⟨g', 0, none⟩) S'.l.length S'.l.length, .slice (some ⟨k', 0, none⟩) S'.n S'.n]] w fun e w' => e = .returned (.bool V) ∧ Below w.heap.size w w') := hid (fun g k g' k' lo hi lo' hi' w h1 h2 => by
    have := specAtMostC g k g' k' S.l.length S.n S'.l.length S'.n lo hi lo' hi' S S' w hm hm' h1 h2
    rw [hV] at this; exact this)
  have HIM : Hid (∀ (a x a' x' : Option Addr) (w : World), SAt w a x S → SAt w a' x' S' → Calls Tryz.prog 8 #[.agg #[.slice a S.l.length S.l.length, .slice x S.n S.n], .agg #[.slice a' S'.l.length S'.l.length, .slice x' S'.n S'.n]] w fun e w' => e = .returned (.bool V) ∧ Below w.heap.size w w') := hid (fun a x a' x' w h1 h2 => by
    have := implAtMostC a x a' x' S.l.length S.n S'.l.length S'.n S S' w hm hm' HIA.out HIB.out h1 h2
    rw [hV] at this; exact this)
  have dV : (V != V) = false := by simp
  have HSE : Hid (∀ w', Below U.heap.size U w' → (w'.cell? ⟨w.heap.size, 0, none⟩ = some (.slice a S.l.length c) ∧ w'.cell? ⟨w.heap.size, 1, none⟩ = some (.slice x S.n d) ∧ w'.cell? ⟨w.heap.size + 1, 0, none⟩ = some (.slice a' S'.l.length c') ∧ w'.cell? ⟨w.heap.size + 1, 1, none⟩ = some (.slice x' S'.n d'))) := hid (fun w' b => by
    have A1 := HBA.out.below b HBA.out.lt
    have B1 := HBB.out.below b HBB.out.lt
    exact ⟨A1.c0, A1.c1, B1.c0, B1.c1⟩)
  clear HSM HBG hV
  go_wp2_with fail
  refine wp_region_held_drew (S := fun w' => w'.cell? ⟨w.heap.size, 0, none⟩ = some (.slice a S.l.length c) ∧ w'.cell? ⟨w.heap.size, 1, none⟩ = some (.slice x S.n d) ∧ w'.cell? ⟨w.heap.size + 1, 0, none⟩ = some (.slice a' S'.l.length c') ∧ w'.cell? ⟨w.heap.size + 1, 1, none⟩ = some (.slice x' S'.n d')) (by kernel_rfl) (HSE.out _ (Below.refl _ _).drew) (fun hHeld => ?_)
  refine tk 0 20 ?_ (by kernel_rfl) (by kernel_rfl) (fun _ _ _ h => h) ?_ hHeld ?_
  rotate_left
  · (intro o ho; simp only [gZa, gZb, gZc, gZd] at ho; subst ho; refine Or.inl ⟨by rfl, ?_⟩; intro w hSw; (try dsimp only at hSw); go_simp; try with_reducible rfl)
  try simp only [Act.put, sZa, sZb, sZc]
  refine tk 2 22 ?_ (by kernel_rfl) (by kernel_rfl) (fun _ _ _ h => h) ?_ hHeld ?_
  rotate_left
  · (intro o ho; simp only [gZa, gZb, gZc, gZd] at ho; subst ho; refine Or.inl ⟨by rfl, ?_⟩; intro w hSw; (try dsimp only at hSw); go_simp; try with_reducible rfl)
  try simp only [Act.put, sZa, sZb, sZc]
  refine call1 (i := 1) (d := some 21) (by kernel_rfl) (by kernel_rfl) ?_
  intro o ho hod K hK; simp only [gZa, gZb, gZc, gZd] at ho; subst ho
  go_simp
  refine (toSt a x c d S _ hm (HSA.out.below (HU.out.trans ((Below.refl _ _).drew.mono HU.out.size)))).mono ?_
  rintro e p3 ⟨pg3, pk3, rfl, sn3, pb3⟩
  have hC0 : Below U.heap.size U p3 := ⟨pb3.os, pb3.tape, pb3.output, pb3.size, pb3.block⟩
  refine hK.out _ _ (HSE.out _ hC0) (fun hHeld => ?_)
  clear hK K
  try simp only [Act.put, sZa, sZb, sZc]
  refine call1 (i := 3) (d := some 23) (by kernel_rfl) (by kernel_rfl) ?_
  intro o ho hod K hK; simp only [gZa, gZb, gZc, gZd] at ho; subst ho
  go_simp
  refine (toSt a' x' c' d' S' _ hm' (HSB.out.below (HU.out.trans (hC0.mono HU.out.size)))).mono ?_
  rintro e p4 ⟨pg4, pk4, rfl, sn4, pb4⟩
  have hC1 := keepS hC0 pb4
  replace sn3 := sn3.below pb4
  refine hK.out _ _ (HSE.out _ hC1) (fun hHeld => ?_)
  clear hK K
  try simp only [Act.put, sZa, sZb, sZc]
  refine call1 (i := 4) (d := some 24) (by kernel_rfl) (by kernel_rfl) ?_
  intro o ho hod K hK; simp only [gZa, gZb, gZc, gZd] at ho; subst ho
  go_simp
  refine (HSP.out pg3 pk3 pg4 pk4 _ _ _ _ _ sn3 sn4).mono ?_
  rintro e W6 ⟨rfl, pb5⟩
  have hB7 := keepS hC1 pb5
  refine hK.out _ _ (HSE.out _ hB7) (fun hHeld => ?_)
  clear hK K
  try simp only [Act.put, sZa, sZb, sZc]
  refine tk 5 6 ?_ (by kernel_rfl) (by kernel_rfl) (fun _ _ _ h => h) ?_ hHeld ?_
  rotate_left
  · (intro o ho; simp only [gZa, gZb, gZc, gZd] at ho; subst ho; refine Or.inl ⟨by rfl, ?_⟩; intro w hSw; (try dsimp only at hSw); go_simp; try with_reducible rfl)
  try simp only [Act.put, sZa, sZb, sZc]
  refine wpAnyH_done (by kernel_rfl) ?_ _
  have HW6 := hid (HU.out.trans (hB7.mono HU.out.size))
  have HBA6 := hid (HBA.out.below hB7 HBA.out.lt)
  have HBB6 := hid (HBB.out.below hB7 HBB.out.lt)
  have p0 := HBA6.out.c0
  have p1 := HBA6.out.c1
  clear hHeld HSE hC0 hC1 pb3 pb4 pb5 sn3 sn4 hB7 HBA HBB HSP
  go_wp2_with fail
  refine (toSt a x c d S W6 hm (HSA.out.below HW6.out)).mono ?_
  rintro e w7 ⟨g7, k7, rfl, s7, b7⟩
  obtain ⟨w8, hw8⟩ : ∃ w8, w7.alloc (.cells #[.slice (some ⟨g7, 0, none⟩) S.l.length S.l.length, .slice (some ⟨k7, 0, none⟩) S.n S.n] 35) = w8 := ⟨_, rfl⟩
  have b8 : Below w7.heap.size w7 w8 := by rw [← hw8]; exact (Below.refl _ _).alloc (Nat.le_refl _) _
  have HX8 : Hid (Bx2 w8 w7.heap.size (.slice (some ⟨g7, 0, none⟩) S.l.length S.l.length) (.slice (some ⟨k7, 0, none⟩) S.n S.n)) := hid (by rw [← hw8]; exact Bx2.made _ _ _ _)
  have HS8 := hid (s7.below b8)
  have HK8 := hid (keepS b7 b8)
  have HZ8 : Hid (W6.heap.size ≤ w7.heap.size ∧ w7.heap.size < w8.heap.size) := hid ⟨b7.size, HX8.out.lt⟩
  have q0 := (HBB6.out.below HK8.out HBB6.out.lt).c0
  have q1 := (HBB6.out.below HK8.out HBB6.out.lt).c1
  clear s7 b7 b8 p0 p1
  go_wp2_with fail
  try rw [hw8]
  clear hw8
  refine (toSt a' x' c' d' S' w8 hm' (HSB.out.below (HW6.out.trans (HK8.out.mono HW6.out.size)))).mono ?_
  rintro e w9 ⟨g9, k9, rfl, s9, b9⟩
  obtain ⟨w10, hw10⟩ : ∃ w10, w9.alloc (.cells #[.slice (some ⟨g9, 0, none⟩) S'.l.length S'.l.length, .slice (some ⟨k9, 0, none⟩) S'.n S'.n] 35) = w10 := ⟨_, rfl⟩
  have b10 : Below w9.heap.size w9 w10 := by rw [← hw10]; exact (Below.refl _ _).alloc (Nat.le_refl _) _
  have HX10 : Hid (Bx2 w10 w9.heap.size (.slice (some ⟨g9, 0, none⟩) S'.l.length S'.l.length) (.slice (some ⟨k9, 0, none⟩) S'.n S'.n)) := hid (by rw [← hw10]; exact Bx2.made _ _ _ _)
  have B810 := keepS b9 b10
  have HS10 := hid (s9.below b10)
  have HS8a := hid (HS8.out.below B810)
  have HX8a := hid (HX8.out.below B810 HX8.out.lt)
  have HK10 := hid (keepS HK8.out B810)
  have HZ10 : Hid (w8.heap.size ≤ w9.heap.size ∧ w9.heap.size < w10.heap.size) := hid ⟨b9.size, HX10.out.lt⟩
  have p0 := HX8a.out.c0
  have p1 := HX8a.out.c1
  have p2 := HX10.out.c0
  have p3 := HX10.out.c1
  clear s9 b9 b10 q0 q1 B810 HS8 HX8 HK8
  go_wp2_with fail
  try rw [hw10]
  clear hw10
  refine (HIM.out (some ⟨g7, 0, none⟩) (some ⟨k7, 0, none⟩) (some ⟨g9, 0, none⟩) (some ⟨k9, 0, none⟩) w10 HS8a.out.at HS10.out.at).mono ?_
  rintro e w13 ⟨rfl, b13⟩
  have HS13 := hid (HS10.out.below b13)
  have HS8c := hid (HS8a.out.below b13)
  have HX8c := hid (HX8a.out.below b13 HX8a.out.lt)
  have HX10c := hid (HX10.out.below b13 HX10.out.lt)
  have HK13 := hid (keepS HK10.out b13)
  clear b13 p0 p1 p2 p3 HS10 HS8a HX8a HX10 HK10
  go_wp2_with fail
  have HSE : Hid (∀ w', Below w13.heap.size w13 w' → (w'.cell? ⟨w7.heap.size, 0, none⟩ = some (.slice (some ⟨g7, 0, none⟩) S.l.length S.l.length) ∧ w'.cell? ⟨w7.heap.size, 1, none⟩ = some (.slice (some ⟨k7, 0, none⟩) S.n S.n) ∧ w'.cell? ⟨w.heap.size, 0, none⟩ = some (.slice a S.l.length c) ∧ w'.cell? ⟨w.heap.size, 1, none⟩ = some (.slice x S.n d))) := hid (fun w' b => by
    have X := HX8c.out.below b HX8c.out.lt
    have A := HBA6.out.below (keepS HK13.out b) HBA6.out.lt
    exact ⟨X.c0, X.c1, A.c0, A.c1⟩)
  refine wp_region_held_drew (S := fun w' => w'.cell? ⟨w7.heap.size, 0, none⟩ = some (.slice (some ⟨g7, 0, none⟩) S.l.length S.l.length) ∧ w'.cell? ⟨w7.heap.size, 1, none⟩ = some (.slice (some ⟨k7, 0, none⟩) S.n S.n) ∧ w'.cell? ⟨w.heap.size, 0, none⟩ = some (.slice a S.l.length c) ∧ w'.cell? ⟨w.heap.size, 1, none⟩ = some (.slice x S.n d)) (by kernel_rfl) (HSE.out _ (Below.refl _ _).drew) (fun hHeld => ?_)
  refine tk 0 35 ?_ (by kernel_rfl) (by kernel_rfl) (fun _ _ _ h => h) ?_ hHeld ?_
  rotate_left
  · (intro o ho; simp only [gZa, gZb, gZc, gZd] at ho; subst ho; refine Or.inl ⟨by rfl, ?_⟩; intro w hSw; (try dsimp only at hSw); go_simp; try with_reducible rfl)
  try simp only [Act.put, sZa, sZb, sZc]
  refine tk 1 36 ?_ (by kernel_rfl) (by kernel_rfl) (fun _ _ _ h => h) ?_ hHeld ?_
  rotate_left
  · (intro o ho; simp only [gZa, gZb, gZc, gZd] at ho; subst ho; refine Or.inl ⟨by rfl, ?_⟩; intro w hSw; (try dsimp only at hSw); go_simp; try with_reducible rfl)
  try simp only [Act.put, sZa, sZb, sZc]
  refine call1 (i := 2) (d := some 37) (by kernel_rfl) (by kernel_rfl) ?_
  intro o ho hod K hK; simp only [gZa, gZb, gZc, gZd] at ho; subst ho
  go_simp
  refine (toSt a x c d S _ hm (HSA.out.below (HW6.out.trans ((keepS HK13.out (Below.refl _ _).drew).mono HW6.out.size)))).mono ?_
  rintro e v1 ⟨vg, vk, rfl, vs, vb⟩
  have vb1 : Below w13.heap.size w13 v1 := ⟨vb.os, vb.tape, vb.output, vb.size, vb.block⟩
  refine hK.out _ _ (HSE.out _ vb1) (fun hHeld => ?_)
  clear hK K
  try simp only [Act.put, sZa, sZb, sZc]
  refine call1 (i := 3) (d := some 38) (by kernel_rfl) (by kernel_rfl) ?_
  intro o ho hod K hK; simp only [gZa, gZb, gZc, gZd] at ho; subst ho
  go_simp
  refine (eqStateC (some ⟨g7, 0, none⟩) (some ⟨vg, 0, none⟩) S.l.length S.l.length S.l (some ⟨k7, 0, none⟩) (some ⟨vk, 0, none⟩) S.n S.n S.n S.R S.F S.T v1 hm.l1 hm.p1 hm.n1 (HS8c.out.below vb1).at.lf vs.at.lf (HS8c.out.below vb1).at.rn vs.at.rn).mono ?_
  rintro e w14 ⟨rfl, vb2⟩
  have vb3 := keepS vb1 vb2
  refine hK.out _ _ (HSE.out _ vb3) (fun hHeld => ?_)
  clear hK K
  try simp only [Act.put, sZa, sZb, sZc]
  refine tk 4 39 ?_ (by kernel_rfl) (by kernel_rfl) (fun _ _ _ h => h) ?_ hHeld ?_
  rotate_left
  · (intro o ho; simp only [gZa, gZb, gZc, gZd] at ho; subst ho; refine Or.inl ⟨by rfl, ?_⟩; intro w hSw; (try dsimp only at hSw); go_simp; try with_reducible rfl)
  try simp only [Act.put, sZa, sZb, sZc]
  refine wpAnyH_done (by kernel_rfl) ?_ _
  have HS14 := hid (HS13.out.below vb3)
  have HX10d := hid (HX10c.out.below vb3 HX10c.out.lt)
  have HK14 := hid (keepS HK13.out vb3)
  have HZ14 : Hid (w13.heap.size ≤ w14.heap.size) := hid vb3.size
  clear hHeld vb vb1 vb2 vb3 vs HSE HS13 HX10c HK13
  go_wp2_with fail
  have HSE : Hid (∀ w', Below w14.heap.size w14 w' → (w'.cell? ⟨w9.heap.size, 0, none⟩ = some (.slice (some ⟨g9, 0, none⟩) S'.l.length S'.l.length) ∧ w'.cell? ⟨w9.heap.size, 1, none⟩ = some (.slice (some ⟨k9, 0, none⟩) S'.n S'.n) ∧ w'.cell? ⟨w.heap.size + 1, 0, none⟩ = some (.slice a' S'.l.length c') ∧ w'.cell? ⟨w.heap.size + 1, 1, none⟩ = some (.slice x' S'.n d'))) := hid (fun w' b => by
    have X := HX10d.out.below b HX10d.out.lt
    have A := HBB6.out.below (keepS HK14.out b) HBB6.out.lt
    exact ⟨X.c0, X.c1, A.c0, A.c1⟩)
  refine wp_region_held_drew (S := fun w' => w'.cell? ⟨w9.heap.size, 0, none⟩ = some (.slice (some ⟨g9, 0, none⟩) S'.l.length S'.l.length) ∧ w'.cell? ⟨w9.heap.size, 1, none⟩ = some (.slice (some ⟨k9, 0, none⟩) S'.n S'.n) ∧ w'.cell? ⟨w.heap.size + 1, 0, none⟩ = some (.slice a' S'.l.length c') ∧ w'.cell? ⟨w.heap.size + 1, 1, none⟩ = some (.slice x' S'.n d')) (by kernel_rfl) (HSE.out _ (Below.refl _ _).drew) (fun hHeld => ?_)
  refine tk 0 40 ?_ (by kernel_rfl) (by kernel_rfl) (fun _ _ _ h => h) ?_ hHeld ?_
  rotate_left
  · (intro o ho; simp only [gZa, gZb, gZc, gZd] at ho; subst ho; refine Or.inl ⟨by rfl, ?_⟩; intro w hSw; (try dsimp only at hSw); go_simp; try with_reducible rfl)
  try simp only [Act.put, sZa, sZb, sZc]
  refine tk 1 41 ?_ (by kernel_rfl) (by kernel_rfl) (fun _ _ _ h => h) ?_ hHeld ?_
  rotate_left
  · (intro o ho; simp only [gZa, gZb, gZc, gZd] at ho; subst ho; refine Or.inl ⟨by rfl, ?_⟩; intro w hSw; (try dsimp only at hSw); go_simp; try with_reducible rfl)
  try simp only [Act.put, sZa, sZb, sZc]
  refine call1 (i := 2) (d := some 42) (by kernel_rfl) (by kernel_rfl) ?_
  intro o ho hod K hK; simp only [gZa, gZb, gZc, gZd] at ho; subst ho
  go_simp
  refine (toSt a' x' c' d' S' _ hm' (HSB.out.below (HW6.out.trans ((keepS HK14.out (Below.refl _ _).drew).mono HW6.out.size)))).mono ?_
  rintro e v1 ⟨vg, vk, rfl, vs, vb⟩
  have vb1 : Below w14.heap.size w14 v1 := ⟨vb.os, vb.tape, vb.output, vb.size, vb.block⟩
  refine hK.out _ _ (HSE.out _ vb1) (fun hHeld => ?_)
  clear hK K
  try simp only [Act.put, sZa, sZb, sZc]
  refine call1 (i := 3) (d := some 43) (by kernel_rfl) (by kernel_rfl) ?_
  intro o ho hod K hK; simp only [gZa, gZb, gZc, gZd] at ho; subst ho
  go_simp
  refine (eqStateC (some ⟨g9, 0, none⟩) (some ⟨vg, 0, none⟩) S'.l.length S'.l.length S'.l (some ⟨k9, 0, none⟩) (some ⟨vk, 0, none⟩) S'.n S'.n S'.n S'.R S'.F S'.T v1 hm'.l1 hm'.p1 hm'.n1 (HS14.out.below vb1).at.lf vs.at.lf (HS14.out.below vb1).at.rn vs.at.rn).mono ?_
  rintro e w15 ⟨rfl, vb2⟩
  have vb3 := keepS vb1 vb2
  refine hK.out _ _ (HSE.out _ vb3) (fun hHeld => ?_)
  clear hK K
  try simp only [Act.put, sZa, sZb, sZc]
  refine tk 4 44 ?_ (by kernel_rfl) (by kernel_rfl) (fun _ _ _ h => h) ?_ hHeld ?_
  rotate_left
  · (intro o ho; simp only [gZa, gZb, gZc, gZd] at ho; subst ho; refine Or.inl ⟨by rfl, ?_⟩; intro w hSw; (try dsimp only at hSw); go_simp; try with_reducible rfl)
  try simp only [Act.put, sZa, sZb, sZc]
  refine wpAnyH_done (by kernel_rfl) ?_ _
  have HK15 := hid (keepS HK14.out vb3)
  have HZ15 : Hid (w14.heap.size ≤ w15.heap.size) := hid vb3.size
  clear hHeld vb vb1 vb2 vb3 vs HSE  HK14
  go_wp2_with fail
  go_ret
  exact ⟨rfl, HW6.out.trans (HK15.out.mono HW6.out.size)⟩
theorem own : ownKnob Tryz.prog.godebug = none := by kernel_rfl
theorem laidOut : laidOutB Tryz.prog = true := by kernel_rfl
set_option maxRecDepth 100000 in
theorem lifted (os : Os) (started : os.Started) (H : Type) (enc : TypeId × Value → H) :
    ReturnsInHanded {} Tryz.checked os 3 .any (Rows.fnExactAtMostSpec.pre6 enc Tryz.prog Tryz.f3 Rows.fnExactAtMostRow.domain false) (Rows.fnExactAtMostSpec.post enc Tryz.prog Tryz.f3 false true false false) := by
  refine returnsInHanded_of_change (C := Tryz.checked) own started (by kernel_rfl) Tryz.func3
    (ChangeSpec.witness6 (enc := enc) (C := Tryz.checked) false ⟨#[], #[.agg #[.slice none 0 0, .slice none 0 0], .agg #[.slice none 0 0, .slice none 0 0]], []⟩ 8 (by kernel_rfl) (by kernel_rfl) (by kernel_rfl) (by kernel_rfl)) ?_
  intro W base args ds gs before hval0 hW hcnd _
  have hval : ∀ (j : Nat) t v, Tryz.f3.params[j]? = some t → args[j]? = some v → Value.okWide Tryz.prog W .any base t v := hval0
  have hW' := hW
  obtain ⟨p, q, hA0, hV, rfl, hfz, hnd⟩ := hW
  have hA : DataW.TrodAll enc Tryz.prog W 0 (fun _ => true) true Tryz.f3.params.toList args.toList ds p := hA0
  rw [Tryz.params3] at hA hval
  obtain ⟨v0, vs0, d0, ds0, p0, q0, hargs, rfl, rfl, h0, r0⟩ := trodAll_cons hA
  obtain ⟨v1, vs1, d1, ds1, p1, q1, hargs1, rfl, rfl, h1, r1⟩ := trodAll_cons r0
  obtain ⟨rfl, rfl, rfl⟩ := trodAll_nil r1
  subst hargs1
  obtain rfl : args = #[v0, v1] := by cases args; simp_all
  obtain ⟨rfl, rfl⟩ := trodVars_none hV
  have k0 := h0
  have k1 := h1
  have lt0 : ∀ x ∈ p0, x.block < W.heap.size := by obtain ⟨m, hm⟩ := k0; exact DataW.trod_lt m _ _ _ hm
  have lt1 : ∀ x ∈ p1, x.block < W.heap.size := by obtain ⟨m, hm⟩ := k1; exact DataW.trod_lt m _ _ _ hm
  obtain ⟨a0, c0, l0, x0, n0, e0, R0, F0, T0, rfl, hl0, w0, hb0, hi0, hn0, w1, _, _, _⟩ := openState (hval 0 27 v0 rfl rfl) h0
  obtain ⟨a1, c1, l1, x1, n1, e1, R1, F1, T1, rfl, hl1, w2, hb1, hi1, hn1, w3, _, _, _⟩ := openState (hval 1 27 v1 rfl rfl) h1
  clear hA0 hval0
  refine (walk a0 x0 a1 x1 c0 e0 c1 e1 ⟨l0, n0, R0, F0, T0⟩ ⟨l1, n1, R1, F1, T1⟩ W ⟨hl0, hb0, hi0, hn0⟩ ⟨hl1, hb1, hi1, hn1⟩ ⟨w0, w1⟩ ⟨w2, w3⟩).mono fun e W' ⟨he, bel⟩ => ?_
  subst he
  exact ⟨_, rfl, _, _, _, [], _, [], hW', trodAll_mk1 (shut_bool Tryz.underlying4 _), (trodAll_cons_mk (Below.trod laidOut (by kernel_rfl) (of_decide_eq_true (by kernel_rfl)) k0 bel lt0) (trodAll_cons_mk (Below.trod laidOut (by kernel_rfl) (of_decide_eq_true (by kernel_rfl)) k1 bel lt1) trodAll_mk0)), rfl, bel.frame _, fun h => by cases h⟩
theorem over : Rows.fnExactAtMostRow.holds Tryz.pinned (OpenSpec.ofChange Rows.fnExactAtMostSpec) :=
  OpenClaim.holds_of_wide 3 Tryz.f3 rfl rfl rfl rfl rfl rfl rfl ⟨rfl, rfl, rfl, rfl, rfl⟩ rfl rfl rfl rfl rfl (by kernel_rfl) Tryz.func3 (by kernel_rfl)
    (of_decide_eq_true (by kernel_rfl)) (by unfold Func.isWrapper; first | (rw [if_pos (by decide +kernel)]; kernel_rfl) | (rw [if_neg (by decide +kernel)]; exact ⟨rfl, rfl⟩))
    (fun os started H enc _ => lifted os started H enc)
end Go.Proofs.YtbocofbigjbhgaaGreat.fnExactAtMost
namespace Go.Proofs.YtbocofbigjbhgaaGreat
theorem atMostHolds : Rows.FnExactAtMostSaid := fnExactAtMost.over
#print axioms atMostHolds
end Go.Proofs.YtbocofbigjbhgaaGreat

