import Derived.Test.YtcbcabhjododoaaGreatFg41
import Derived.Test.YtcbcabhjododoaaGreatFg38
import Derived.Test.YtcbcabhjododoaaGreatFg39
set_option linter.unusedVariables false
set_option linter.unusedSimpArgs false
set_option maxRecDepth 100000
set_option maxHeartbeats 40000000
namespace Go.Proofs.YtcbcabhjododoaaGreat
open Go.ChangeShapes Go.WideShapes Go.ChangeAt Go.RowKit Go.Maps
noncomputable def chF (S D : Sx) : Bool := jnF S D && (decide (D.l.length ≤ 1000) && decide (D.n ≤ 1000))
noncomputable def chX (S D : Sx) : Sx := if chF S D then jnS S D else Sx.mt
noncomputable def chY (S D : Sx) : Sx := if chF S D then D else Sx.mt
noncomputable def chC (S D : Sx) : Int := if chF S D then 0 else 4
theorem ch_t {S D : Sx} (h : chF S D = true) : chX S D = jnS S D ∧ chY S D = D ∧ chC S D = 0 := by unfold chX chY chC; rw [if_pos h, if_pos h, if_pos h]; exact ⟨rfl, rfl, rfl⟩
theorem ch_f {S D : Sx} (h : chF S D = false) : chX S D = Sx.mt ∧ chY S D = Sx.mt ∧ chC S D = 4 := by unfold chX chY chC; rw [if_neg (by rw [h]; simp), if_neg (by rw [h]; simp), if_neg (by rw [h]; simp)]; exact ⟨rfl, rfl, rfl⟩
theorem stw_lvB {S : Sx} (h : StW S.R S.F S.T S.n S.l) : LvB S.l :=
 ⟨fun i hi => (st_bd h _ (gL_mem.2 ⟨i, hi, rfl⟩)).1, fun i hi => (st_bd h _ (gL_mem.2 ⟨i, hi, rfl⟩)).2.1, fun i hi => (st_bd h _ (gL_mem.2 ⟨i, hi, rfl⟩)).2.2.1, h.2.1, h.2.2.2⟩
theorem changeC {x0 y0 : Nat × Nat} {bm bm' : Nat} {S D : Sx} {ul : List Rn} (w : World) (h : OpA w x0 bm S) (h' : OpA w y0 bm' D) (hv : LvJ w y0 bm' D.l ul) (hD : D = mkS D.l ul) (hs : StW S.R S.F S.T S.n S.l) (hs' : StW D.R D.F D.T D.n D.l) :
  Calls Tryz.prog 57 #[.agg #[.map (some x0.1), .map (some x0.2), .map (some bm)], .agg #[.map (some y0.1), .map (some y0.2), .map (some bm')]] w fun e w' => ∃ a c x d a' c' x' d' mid, e = .returned (.tuple #[.agg #[.slice a (chX S D).l.length c, .slice x (chX S D).n d], .agg #[.slice a' (chY S D).l.length c', .slice x' (chY S D).n d'], .int .i64 (chC S D)]) ∧ SOw w' w.heap.size mid a x d (chX S D) ∧ SOw w' mid w'.heap.size a' x' d' (chY S D) ∧ Below w.heap.size w w' := by
 obtain ⟨W, hW⟩ : ∃ W, (((w.alloc (.cells #[.map (some x0.1), .map (some x0.2), .map (some bm)] 68)).alloc (.cells #[.map (some y0.1), .map (some y0.2), .map (some bm')] 68)).alloc (.cells #[.slice none 0 0, .slice none 0 0] 36)).alloc (.cells #[.slice none 0 0, .slice none 0 0] 36) = W := ⟨_, rfl⟩
 have b0 : Below w.heap.size w W := by rw [← hW]; exact ((below2 _ _ _).alloc (by simp; omega) _).alloc (by simp; omega) _
 have zW : W.heap.size = w.heap.size + 4 := by rw [← hW]; simp
 have al : ∀ (v : World) (o : Obj), Below v.heap.size v (v.alloc o) := fun v o => (Below.refl _ _).alloc (Nat.le_refl _) _
 have A0 : Bx3 W w.heap.size (.map (some x0.1)) (.map (some x0.2)) (.map (some bm)) := by
  rw [← hW]
  exact (((Bx3.made w _ _ _ _).below (al _ _) (by simp)).below (al _ _) (by simp; try omega)).below (al _ _) (by simp; try omega)
 have B0 : Bx3 W (w.heap.size + 1) (.map (some y0.1)) (.map (some y0.2)) (.map (some bm')) := by
  rw [← hW]
  have := Bx3.made (w.alloc (.cells #[.map (some x0.1), .map (some x0.2), .map (some bm)] 68)) (.map (some y0.1)) (.map (some y0.2)) (.map (some bm')) 68
  exact ((by simpa using this : Bx3 _ (w.heap.size + 1) _ _ _).below (al _ _) (by simp)).below (al _ _) (by simp; try omega)
 have R0 : Bx2 W (w.heap.size + 1 + 1) (.slice none 0 0) (.slice none 0 0) := by
  rw [← hW]
  have := Bx2.made ((w.alloc (.cells #[.map (some x0.1), .map (some x0.2), .map (some bm)] 68)).alloc (.cells #[.map (some y0.1), .map (some y0.2), .map (some bm')] 68)) (.slice none 0 0) (.slice none 0 0) 36
  exact (by simpa using this : Bx2 _ (w.heap.size + 1 + 1) _ _).allocs _
 have Q0 : Bx2 W (w.heap.size + 1 + 1 + 1) (.slice none 0 0) (.slice none 0 0) := by
  rw [← hW]
  simpa using Bx2.made (((w.alloc (.cells #[.map (some x0.1), .map (some x0.2), .map (some bm)] 68)).alloc (.cells #[.map (some y0.1), .map (some y0.2), .map (some bm')] 68)).alloc (.cells #[.slice none 0 0, .slice none 0 0] 36)) (.slice none 0 0) (.slice none 0 0) 36
 have HJL := hid (joinLiveC W (h.below b0) (h'.below b0) hs hs')
 have HLE : Hid ((jnS S D).l.length ≤ 2000 ∧ (jnU S D).length ≤ 4000) := hid (jn_len hs hs')
 have HDI := hid (And.intro (jn_dis hs hs') (And.intro (fun x hx => (jn_bd hs hs' x hx).2.2.2) (And.intro (jn_lv hs hs') (fun hl => jn_lvB hs hs' hl))))
 have HDD := hid (And.intro hs'.2.2.2 (And.intro (fun x hx => (st_bd hs' x hx).2.2.2) (And.intro hs'.2.2.1 (stw_lvB hs'))))
 have HUL : Hid (D.l.length ≤ 1000 ∧ ul.length ≤ 2000 ∧ D.n = ul.length) := hid (by
  have e : D.n = ul.length := by rw [hD]; rfl
  exact ⟨hs'.2.1, by rw [← e]; exact hs'.1.2, e⟩)
 have HLD := hid (hv.below b0)
 have HDM := hid hD
 have HA0 := hid A0
 have HBB := hid B0
 have HR0 := hid R0
 have HQ0 := hid Q0
 have HB0 := hid b0
 have HZW := hid zW
 have k0 := A0.c0
 have k1 := A0.c1
 have k2 := A0.c2
 have l0 := B0.c0
 have l1 := B0.c1
 have l2 := B0.c2
 clear b0 zW A0 B0 R0 Q0 h h' hv hD hs hs' al
 go_enter Tryz.func57, Tryz.ntmps57
 go_wp2_with fail
 try rw [hW]
 clear hW
 refine HJL.out.mono ?_
 rintro e w1 ⟨⟨z0, bd, rfl, lv⟩, b1⟩
 obtain ⟨w2, hw2⟩ : ∃ w2, w1.alloc (.cells #[.map (some z0.1), .map (some z0.2), .map (some bd)] 68) = w2 := ⟨_, rfl⟩
 have b2 : Below w1.heap.size w1 w2 := by rw [← hw2]; exact (Below.refl _ _).alloc (Nat.le_refl _) _
 have X2 : Bx3 w2 w1.heap.size (.map (some z0.1)) (.map (some z0.2)) (.map (some bd)) := by rw [← hw2]; exact Bx3.made _ _ _ _ _
 have HX2 := hid X2
 have HLV := hid (lv.below b2)
 have HW2 := hid (keepS b1 b2)
 have HZ1 : Hid (W.heap.size ≤ w1.heap.size) := hid b1.size
 have HWI := hid (withinC w2 HLV.out HDI.out.1 HDI.out.2.1 (by have := HLE.out; omega) (by have := HLE.out; omega))
 have HFE : Hid ((decide ((jnS S D).l.length ≤ 1000) && decide ((jnU S D).length ≤ 1000)) = jnF S D) := hid rfl
 rw [HFE.out] at HWI
 obtain ⟨B1, hB1⟩ : ∃ B, jnF S D = B := ⟨_, rfl⟩
 rw [hB1] at HWI
 have HJF := hid hB1
 have e0 := X2.c0
 have e1 := X2.c1
 have e2 := X2.c2
 clear lv b1 b2 X2 k0 k1 k2 l0 l1 l2 HJL HFE hB1
 go_wp2_with fail
 try rw [hw2]
 clear hw2
 refine HWI.out.mono ?_
 rintro e w3 ⟨rfl, b3⟩
 have HW3 := hid (keepS HW2.out b3)
 have HB23 := hid b3
 clear b3 e0 e1 e2 HWI
 cases B1 with
 | false =>
  have HZ := hid (ch_f (S := S) (D := D) (by unfold chF; rw [HJF.out]; rfl))
  have R3 := HR0.out.below HW3.out HR0.out.lt
  have Q3 := HQ0.out.below HW3.out HQ0.out.lt
  have HB3 := hid (keepS HB0.out HW3.out)
  have r0 := R3.c0
  have r1 := R3.c1
  have f0 := R3.f 0
  have f1 := R3.f 1
  have HC := hid (R3.set (.slice none 0 0) (.slice none 0 0))
  have Q4 := (Q3.setAt ⟨w.heap.size + 1 + 1, 0, none⟩ (.slice none 0 0) (by show w.heap.size + 1 + 1 ≠ w.heap.size + 1 + 1 + 1; omega)).setAt ⟨w.heap.size + 1 + 1, 1, none⟩ (.slice none 0 0) (by show w.heap.size + 1 + 1 ≠ w.heap.size + 1 + 1 + 1; omega)
  have q0 := Q4.c0
  have q1 := Q4.c1
  have qf0 := Q4.f 0
  have qf1 := Q4.f 1
  have HQ5 := hid (Q4.set (.slice none 0 0) (.slice none 0 0))
  have HC5 := hid ((HC.out.setAt ⟨w.heap.size + 1 + 1 + 1, 0, none⟩ (.slice none 0 0) (by show w.heap.size + 1 + 1 + 1 ≠ w.heap.size + 1 + 1; omega)).setAt ⟨w.heap.size + 1 + 1 + 1, 1, none⟩ (.slice none 0 0) (by show w.heap.size + 1 + 1 + 1 ≠ w.heap.size + 1 + 1; omega))
  clear R3 Q3 Q4
  go_wp2_with fail
  have s0 := HC5.out.c0
  have s1 := HC5.out.c1
  have s2 := HQ5.out.c0
  have s3 := HQ5.out.c1
  refine bodyPost_ret (v := .tuple #[.agg #[.slice none 0 0, .slice none 0 0], .agg #[.slice none 0 0, .slice none 0 0], .int .i64 4]) (by simp [results, Tryz.results57, go_sem, s0, s1, s2, s3]) rfl ⟨none, 0, none, 0, none, 0, none, 0, w.heap.size, by rw [HZ.out.1, HZ.out.2.1, HZ.out.2.2]; rfl, ?_, ?_, ?_⟩
  ·rw [HZ.out.1]; exact SOw.mt _ Sx.mt rfl rfl _ _ ⟨Nat.le_refl _, by simp [World.setCell]; exact HB3.out.size⟩ _ _ _
  ·rw [HZ.out.2.1]; exact SOw.emp _ _ _ _ _ (by simp [World.setCell]; exact HB3.out.size)
  ·exact (((HB3.out.setCell (by simp; omega) _).setCell (by simp; omega) _).setCell (by simp; omega) _).setCell (by simp; omega) _
 | true =>
  have HWD := hid (withinC w3 (HLD.out.below HW3.out) HDD.out.1 HDD.out.2.1 (by have := HUL.out; omega) (by have := HUL.out; omega))
  obtain ⟨B2, hB2⟩ : ∃ B, (decide (D.l.length ≤ 1000) && decide (ul.length ≤ 1000)) = B := ⟨_, rfl⟩
  rw [hB2] at HWD
  have HDF : Hid ((decide (D.l.length ≤ 1000) && decide (D.n ≤ 1000)) = B2) := hid (by rw [HUL.out.2.2]; exact hB2)
  have BB := HBB.out.below HW3.out HBB.out.lt
  have l0 := BB.c0
  have l1 := BB.c1
  have l2 := BB.c2
  clear hB2 BB
  go_wp2_with fail
  refine HWD.out.mono ?_
  rintro e w4 ⟨rfl, b4⟩
  have HW4 := hid (keepS HW3.out b4)
  have HB34 := hid b4
  clear b4 l0 l1 l2 HWD
  cases B2 with
  | false =>
   have HZ := hid (ch_f (S := S) (D := D) (by unfold chF; rw [HDF.out]; simp))
   have R3 := HR0.out.below HW4.out HR0.out.lt
   have Q3 := HQ0.out.below HW4.out HQ0.out.lt
   have HB3 := hid (keepS HB0.out HW4.out)
   have r0 := R3.c0
   have r1 := R3.c1
   have f0 := R3.f 0
   have f1 := R3.f 1
   have HC := hid (R3.set (.slice none 0 0) (.slice none 0 0))
   have Q4 := (Q3.setAt ⟨w.heap.size + 1 + 1, 0, none⟩ (.slice none 0 0) (by show w.heap.size + 1 + 1 ≠ w.heap.size + 1 + 1 + 1; omega)).setAt ⟨w.heap.size + 1 + 1, 1, none⟩ (.slice none 0 0) (by show w.heap.size + 1 + 1 ≠ w.heap.size + 1 + 1 + 1; omega)
   have q0 := Q4.c0
   have q1 := Q4.c1
   have qf0 := Q4.f 0
   have qf1 := Q4.f 1
   have HQ5 := hid (Q4.set (.slice none 0 0) (.slice none 0 0))
   have HC5 := hid ((HC.out.setAt ⟨w.heap.size + 1 + 1 + 1, 0, none⟩ (.slice none 0 0) (by show w.heap.size + 1 + 1 + 1 ≠ w.heap.size + 1 + 1; omega)).setAt ⟨w.heap.size + 1 + 1 + 1, 1, none⟩ (.slice none 0 0) (by show w.heap.size + 1 + 1 + 1 ≠ w.heap.size + 1 + 1; omega))
   clear R3 Q3 Q4
   go_wp2_with fail
   have s0 := HC5.out.c0
   have s1 := HC5.out.c1
   have s2 := HQ5.out.c0
   have s3 := HQ5.out.c1
   refine bodyPost_ret (v := .tuple #[.agg #[.slice none 0 0, .slice none 0 0], .agg #[.slice none 0 0, .slice none 0 0], .int .i64 4]) (by simp [results, Tryz.results57, go_sem, s0, s1, s2, s3]) rfl ⟨none, 0, none, 0, none, 0, none, 0, w.heap.size, by rw [HZ.out.1, HZ.out.2.1, HZ.out.2.2]; rfl, ?_, ?_, ?_⟩
   ·rw [HZ.out.1]; exact SOw.mt _ Sx.mt rfl rfl _ _ ⟨Nat.le_refl _, by simp [World.setCell]; exact HB3.out.size⟩ _ _ _
   ·rw [HZ.out.2.1]; exact SOw.emp _ _ _ _ _ (by simp [World.setCell]; exact HB3.out.size)
   ·exact (((HB3.out.setCell (by simp; omega) _).setCell (by simp; omega) _).setCell (by simp; omega) _).setCell (by simp; omega) _
  | true =>
   have HZ := hid (ch_t (S := S) (D := D) (by unfold chF; rw [HJF.out, HDF.out]; rfl))
   have HX4 := hid ((HX2.out.below HB23.out HX2.out.lt).below HB34.out (HX2.out.below HB23.out HX2.out.lt).lt)
   have HD4 := hid (HBB.out.below HW4.out HBB.out.lt)
   have HSE : Hid (∀ w', Below w4.heap.size w4 w' → (w'.cell? ⟨w1.heap.size, 0, none⟩ = some (.map (some z0.1)) ∧ w'.cell? ⟨w1.heap.size, 1, none⟩ = some (.map (some z0.2)) ∧ w'.cell? ⟨w1.heap.size, 2, none⟩ = some (.map (some bd)) ∧ w'.cell? ⟨w.heap.size + 1, 0, none⟩ = some (.map (some y0.1)) ∧ w'.cell? ⟨w.heap.size + 1, 1, none⟩ = some (.map (some y0.2)) ∧ w'.cell? ⟨w.heap.size + 1, 2, none⟩ = some (.map (some bm')))) := hid (fun w' b => by
    have A1 := HX4.out.below b HX4.out.lt
    have B1 := HD4.out.below b HD4.out.lt
    exact ⟨A1.c0, A1.c1, A1.c2, B1.c0, B1.c1, B1.c2⟩)
   have HS1 := hid (fun w5 (b5 : Below w4.heap.size w4 w5) => stateC w5 (((HLV.out.below HB23.out).below HB34.out).below b5) HDI.out.2.2.1 (HDI.out.2.2.2 (by have := HJF.out; unfold jnF at this; simp at this; exact this.1)))
   have HS2 := hid (fun w5 (b5 : Below w4.heap.size w4 w5) => stateC w5 ((HLD.out.below HW4.out).below b5) HDD.out.2.2.1 HDD.out.2.2.2)
   have HB4 := hid (keepS HB0.out HW4.out)
   have HR4 := hid (HR0.out.below HW4.out HR0.out.lt)
   have HQ4 := hid (HQ0.out.below HW4.out HQ0.out.lt)
   obtain ⟨JL, hJL⟩ : ∃ JL, (jnS S D).l.length = JL := ⟨_, rfl⟩
   obtain ⟨JU, hJU⟩ : ∃ JU, (jnU S D).length = JU := ⟨_, rfl⟩
   obtain ⟨DL, hDL⟩ : ∃ DL, D.l.length = DL := ⟨_, rfl⟩
   obtain ⟨DU, hDU⟩ : ∃ DU, ul.length = DU := ⟨_, rfl⟩
   rw [hJL, hJU] at HS1
   rw [hDL, hDU] at HS2
   have HJ2 := hid (And.intro hJL (And.intro hJU (And.intro hDL hDU)))
   have HZ4 : Hid (w.heap.size + 4 ≤ w4.heap.size ∧ w1.heap.size < w4.heap.size ∧ w.heap.size + 4 ≤ w1.heap.size) := hid (by
    have h1 := HZW.out
    have h2 := HW4.out.size
    have h3 := HX4.out.lt
    have h4 := HZ1.out
    exact ⟨by omega, by omega, by omega⟩)
   clear hJL hJU hDL hDU
   go_wp2_with fail
   refine wp_region_held_drew (S := fun w' => w'.cell? ⟨w1.heap.size, 0, none⟩ = some (.map (some z0.1)) ∧ w'.cell? ⟨w1.heap.size, 1, none⟩ = some (.map (some z0.2)) ∧ w'.cell? ⟨w1.heap.size, 2, none⟩ = some (.map (some bd)) ∧ w'.cell? ⟨w.heap.size + 1, 0, none⟩ = some (.map (some y0.1)) ∧ w'.cell? ⟨w.heap.size + 1, 1, none⟩ = some (.map (some y0.2)) ∧ w'.cell? ⟨w.heap.size + 1, 2, none⟩ = some (.map (some bm'))) (by kernel_rfl) (HSE.out _ (Below.refl _ _).drew) (fun hHeld => ?_)
   refine tk 0 21 ?_ (by kernel_rfl) (fun _ _ _ h => h) ?_ hHeld (tk 2 23 ?_ (by kernel_rfl) (fun _ _ _ h => h) ?_ hHeld ?_)
   iterate 2 (rotate_left; focus (intro o ho; simp only [gZa, gZb, gZc, gZd] at ho; subst ho; refine Or.inl ⟨by rfl, ?_⟩; intro w hSw; (try dsimp only at hSw); (try simp only [Act.put, sZa, sZb, sZc]); go_simp; try with_reducible rfl))
   try simp only [Act.put, sZa, sZb, sZc]
   refine call1 (i := 1) (d := some 22) (by kernel_rfl) (by kernel_rfl) ?_
   intro o ho hod K hK; simp only [gZa, gZb, gZc, gZd] at ho; subst ho
   go_simp
   refine (HS1.out _ (Below.refl _ _).drew).mono ?_
   rintro e w5 ⟨⟨a, c, x, d, rfl, lb, fr, hz5⟩, b5⟩
   have b5' : Below w4.heap.size w4 w5 := ⟨b5.os, b5.tape, b5.output, b5.size, b5.block⟩
   have HLB := hid lb
   have HFR := hid fr
   have HZ5 : Hid (w4.heap.size + 2 ≤ w5.heap.size) := hid hz5
   clear lb fr hz5
   refine hK.out _ _ (HSE.out _ b5') (fun hHeld => ?_)
   clear hK K
   try simp only [Act.put, sZa, sZb, sZc]
   refine call1 (i := 3) (d := some 24) (by kernel_rfl) (by kernel_rfl) ?_
   intro o ho hod K hK; simp only [gZa, gZb, gZc, gZd] at ho; subst ho
   go_simp
   refine (HS2.out _ b5').mono ?_
   rintro e w6 ⟨⟨a', c', x', d', rfl, lb, fr, hz6⟩, b6⟩
   have b6' := keepS b5' b6
   have HLB' := hid lb
   have HFR' := hid fr
   have HZ6 : Hid (w5.heap.size + 2 ≤ w6.heap.size) := hid hz6
   have HL6 := hid (HLB.out.below b6)
   have HF6 := hid (HFR.out.below b6)
   clear lb fr hz6
   refine hK.out _ _ (HSE.out _ b6') (fun hHeld => ?_)
   clear hK K
   try simp only [Act.put, sZa, sZb, sZc]
   have R6 := HR4.out.below b6' HR4.out.lt
   have t0 := R6.c0
   have t1 := R6.c1
   have tf := R6.f
   have hz4 := HZ4.out
   have HR7 := hid (R6.set (.slice a JL c) (.slice x JU d))
   have HX7 := hid (((HX4.out.below b6' HX4.out.lt).far (grownSet w6 ⟨w.heap.size + 1 + 1, 0, none⟩ (.slice a JL c)) (by show w1.heap.size ≠ w.heap.size + 1 + 1; omega)).far (grownSet _ ⟨w.heap.size + 1 + 1, 1, none⟩ (.slice x JU d)) (by show w1.heap.size ≠ w.heap.size + 1 + 1; omega))
   have HD7 := hid (((HD4.out.below b6' HD4.out.lt).far (grownSet w6 ⟨w.heap.size + 1 + 1, 0, none⟩ (.slice a JL c)) (by show w.heap.size + 1 ≠ w.heap.size + 1 + 1; omega)).far (grownSet _ ⟨w.heap.size + 1 + 1, 1, none⟩ (.slice x JU d)) (by show w.heap.size + 1 ≠ w.heap.size + 1 + 1; omega))
   have HQ7 := hid (((HQ4.out.below b6' HQ4.out.lt).setAt ⟨w.heap.size + 1 + 1, 0, none⟩ (.slice a JL c) (by show w.heap.size + 1 + 1 ≠ w.heap.size + 1 + 1 + 1; omega)).setAt ⟨w.heap.size + 1 + 1, 1, none⟩ (.slice x JU d) (by show w.heap.size + 1 + 1 ≠ w.heap.size + 1 + 1 + 1; omega))
   have HX8 := hid ((HX7.out.far (grownSet _ ⟨w.heap.size + 1 + 1 + 1, 0, none⟩ (.slice a' DL c')) (by show w1.heap.size ≠ w.heap.size + 1 + 1 + 1; omega)).far (grownSet _ ⟨w.heap.size + 1 + 1 + 1, 1, none⟩ (.slice x' DU d')) (by show w1.heap.size ≠ w.heap.size + 1 + 1 + 1; omega))
   have HD8 := hid ((HD7.out.far (grownSet _ ⟨w.heap.size + 1 + 1 + 1, 0, none⟩ (.slice a' DL c')) (by show w.heap.size + 1 ≠ w.heap.size + 1 + 1 + 1; omega)).far (grownSet _ ⟨w.heap.size + 1 + 1 + 1, 1, none⟩ (.slice x' DU d')) (by show w.heap.size + 1 ≠ w.heap.size + 1 + 1 + 1; omega))
   have HR8 := hid ((HR7.out.setAt ⟨w.heap.size + 1 + 1 + 1, 0, none⟩ (.slice a' DL c') (by show w.heap.size + 1 + 1 + 1 ≠ w.heap.size + 1 + 1; omega)).setAt ⟨w.heap.size + 1 + 1 + 1, 1, none⟩ (.slice x' DU d') (by show w.heap.size + 1 + 1 + 1 ≠ w.heap.size + 1 + 1; omega))
   have HQ8 := hid (HQ7.out.set (.slice a' DL c') (.slice x' DU d'))
   have HB6 := hid (keepS HB4.out b6')
   have HOX : Hid (SOw w6 (w4.heap.size + 2) w5.heap.size a x d (jnS S D)) := hid (SOw.below (SOw.of (ul := jnU S D) (by rw [HJ2.out.1]; exact HLB.out) (by rw [show (jnS S D).n = JU from HJ2.out.2.1]; exact HFR.out) rfl rfl rfl rfl HZ5.out) b6)
   have HOY : Hid (SOw w6 (w5.heap.size + 2) w6.heap.size a' x' d' D) := hid (SOw.of (ul := ul) (by rw [HJ2.out.2.2.1]; exact HLB'.out) (by rw [HUL.out.2.2, HJ2.out.2.2.2]; exact HFR'.out) HUL.out.2.2 (by rw [HDM.out]; rfl) (by rw [HDM.out]; rfl) (by rw [HDM.out]; rfl) HZ6.out)
   clear hz4
   refine call1 (i := 4) (d := none) (by kernel_rfl) (by kernel_rfl) ?_
   intro o ho hod K hK; simp only [gZa, gZb, gZc, gZd] at ho; subst ho
   go_simp
   refine hK.out _ _ ⟨HX7.out.c0, HX7.out.c1, HX7.out.c2, HD7.out.c0, HD7.out.c1, HD7.out.c2⟩ (fun hHeld => ?_)
   clear hK K
   try simp only [Act.put, sZa, sZb, sZc]
   clear t0 t1 tf
   have t0 := HQ7.out.c0
   have t1 := HQ7.out.c1
   have tf := HQ7.out.f
   refine call1 (i := 5) (d := none) (by kernel_rfl) (by kernel_rfl) ?_
   intro o ho hod K hK; simp only [gZa, gZb, gZc, gZd] at ho; subst ho
   go_simp
   refine hK.out _ _ ⟨HX8.out.c0, HX8.out.c1, HX8.out.c2, HD8.out.c0, HD8.out.c1, HD8.out.c2⟩ (fun hHeld => ?_)
   clear hK K
   try simp only [Act.put, sZa, sZb, sZc]
   refine tk 6 6 ?_ (by kernel_rfl) (fun _ _ _ h => h) ?_ hHeld ?_
   rotate_left
   ·(intro o ho; simp only [gZa, gZb, gZc, gZd] at ho; subst ho; refine Or.inl ⟨by rfl, ?_⟩; intro w hSw; (try dsimp only at hSw); go_simp; try with_reducible rfl)
   try simp only [Act.put, sZa, sZb, sZc]
   refine wpAnyH_done (by kernel_rfl) ?_ _
   clear hHeld b5 b5' b6 b6' R6 t0 t1 tf HSE HS1 HS2
   go_wp2_with fail
   have s0 := HR8.out.c0
   have s1 := HR8.out.c1
   have s2 := HQ8.out.c0
   have s3 := HQ8.out.c1
   refine bodyPost_ret (v := .tuple #[.agg #[.slice a JL c, .slice x JU d], .agg #[.slice a' DL c', .slice x' DU d'], .int .i64 0]) (by simp [results, Tryz.results57, go_sem, s0, s1, s2, s3]) rfl ⟨a, c, x, d, a', c', x', d', by rw [HZ.out.1, HZ.out.2.1, HZ.out.2.2, HJ2.out.1, show (jnS S D).n = JU from HJ2.out.2.1, HJ2.out.2.2.1, HUL.out.2.2, HJ2.out.2.2.2], w5.heap.size, ?_, ?_, ?_⟩
   ·rw [HZ.out.1]
    have hz4 := HZ4.out
    have hz5 := HZ5.out
    have hz6 := HZ6.out
    exact SOw.wide ((((HOX.out.set ⟨w.heap.size + 1 + 1, 0, none⟩ (.slice a JL c) (.inl (by show w.heap.size + 1 + 1 < w4.heap.size + 2; omega))).set ⟨w.heap.size + 1 + 1, 1, none⟩ (.slice x JU d) (.inl (by show w.heap.size + 1 + 1 < w4.heap.size + 2; omega))).set ⟨w.heap.size + 1 + 1 + 1, 0, none⟩ (.slice a' DL c') (.inl (by show w.heap.size + 1 + 1 + 1 < w4.heap.size + 2; omega))).set ⟨w.heap.size + 1 + 1 + 1, 1, none⟩ (.slice x' DU d') (.inl (by show w.heap.size + 1 + 1 + 1 < w4.heap.size + 2; omega))) (by omega) (Nat.le_refl _) (by simp [World.setCell]; omega)
   ·rw [HZ.out.2.1]
    have hz4 := HZ4.out
    have hz5 := HZ5.out
    have hz6 := HZ6.out
    exact SOw.wide ((((HOY.out.set ⟨w.heap.size + 1 + 1, 0, none⟩ (.slice a JL c) (.inl (by show w.heap.size + 1 + 1 < w5.heap.size + 2; omega))).set ⟨w.heap.size + 1 + 1, 1, none⟩ (.slice x JU d) (.inl (by show w.heap.size + 1 + 1 < w5.heap.size + 2; omega))).set ⟨w.heap.size + 1 + 1 + 1, 0, none⟩ (.slice a' DL c') (.inl (by show w.heap.size + 1 + 1 + 1 < w5.heap.size + 2; omega))).set ⟨w.heap.size + 1 + 1 + 1, 1, none⟩ (.slice x' DU d') (.inl (by show w.heap.size + 1 + 1 + 1 < w5.heap.size + 2; omega))) (by omega) (by simp [World.setCell]) (Nat.le_refl _)
   ·exact (((HB6.out.setCell (by simp; omega) _).setCell (by simp; omega) _).setCell (by simp; omega) _).setCell (by simp; omega) _
theorem cW_cons (x : Lf) (J : List Lf) (z : List Ky) : cW (x :: J) z = cW J z + if yes (z <+: Way x) = true then 1 else 0 := by
 unfold cW
 cases hp : yes (z <+: Way x) with
 | true => simp [hp]
 | false => simp [hp]
theorem cW3 {p : List ByteArray} (h0 : 0 < p.length) : ∀ J : List Lf, cW J (wayOf p 1) + cW J (wayOf p 2) + cW J (wayOf p 3) ≤ J.length
 | [] => by simp [cW]
 | x :: J => by
  have ih := cW3 h0 J
  rw [cW_cons, cW_cons, cW_cons, List.length_cons]
  have key : ∀ k k' : Int, k ≠ k' → ¬ (wayOf p k <+: Way x ∧ wayOf p k' <+: Way x) := fun k k' hne ⟨h1, h2⟩ => by
   rw [way_pre h0] at h1 h2
   rcases h1 with ⟨e1, _, l1⟩ | ⟨e1, l1⟩
   ·rcases h2 with ⟨e2, _⟩ | ⟨e2, _⟩
    ·exact hne (e1.trans e2.symm)
    ·rw [e2] at l1; omega
   ·rcases h2 with ⟨e2, _, l2⟩ | ⟨e2, l2⟩
    ·rw [e1] at l2; omega
    ·exact hne (l1.trans l2.symm)
  have k12 := key 1 2 (by decide)
  have k13 := key 1 3 (by decide)
  have k23 := key 2 3 (by decide)
  by_cases a1 : wayOf p 1 <+: Way x
  ·have a2 : ¬ wayOf p 2 <+: Way x := fun h => k12 ⟨a1, h⟩
   have a3 : ¬ wayOf p 3 <+: Way x := fun h => k13 ⟨a1, h⟩
   rw [if_pos (yes_t a1), if_neg (by rw [yes_f a2]; simp), if_neg (by rw [yes_f a3]; simp)]; omega
  ·rw [if_neg (by rw [yes_f a1]; simp)]
   by_cases a2 : wayOf p 2 <+: Way x
   ·have a3 : ¬ wayOf p 3 <+: Way x := fun h => k23 ⟨a2, h⟩
    rw [if_pos (yes_t a2), if_neg (by rw [yes_f a3]; simp)]; omega
   ·rw [if_neg (by rw [yes_f a2]; simp)]
    split <;> omega
theorem nki_jf {w : World} {B c : Nat} {J : List Lf} {N : List Ky → Option (Nat × Nat)} {x0 : Nat × Nat} (h : Tre w B N (Mk J J.length) c) (hr : N [] = some x0) (hn : NkI J J.length N) : JF w B J [] N c x0 := by
 refine ⟨by simpa using h, hr, fun y r => ?_⟩
 rw [hn]
 constructor
 ·rintro (e | ⟨j, hj, hp⟩)
  ·cases e
  ·exact ⟨gL J j, gL_mem.2 ⟨j, hj, rfl⟩, by simpa using hp⟩
 ·rintro ⟨x, hx, hp⟩
  obtain ⟨j, hj, e⟩ := gL_mem.1 hx
  exact .inr ⟨j, hj, by rw [e]; simpa using hp⟩
theorem GrpAt.r {w : World} {bm n : Nat} {D : DataW Value} {G : Int → Value} {L : Int → List (Int × Int)} (h : GrpAt w bm n D G L) : GrpR w bm n D G L := ⟨h.own, h.at', h.has', fun r => row_zero (h.rows r)⟩
theorem dl_open {g : Lf → Prop} {S : Sx} {P : List Lf} (h : StOk S.R S.F S.T S.n S.l) (hp : PtO S P) {w : World} {bm n : Nat} {D : DataW Value} {G : Int → Value} {L : Int → List (Int × Int)} {ds : List Dt} (hn : n ≤ 2000) (hG : GrpAt w bm n D G L) (hs : ∀ r, Srt (L r)) (hi : ∀ r x, In (L r) x ↔ (r, x) ∈ ds) (hl : ∀ r, (L r).length ≤ 2000)
  (hd : ∀ d : Dt, d ∈ ds ↔ (∃ y, (y ∈ S.l ∧ g y) ∧ y.r = d.1 ∧ y.q = d.2) ∨ ∃ y ∈ P, y.r = d.1 ∧ y.q = d.2) {x0 : Nat × Nat} {N : List Ky → Option (Nat × Nat)} {B : Nat} (hT : Tre w B N (Mk P P.length) (9 * P.length)) (hr : N [] = some x0) (hk : NkI P P.length N) :
  OpA w x0 bm (dlS g S.l P) ∧ LvJ w x0 bm (dlS g S.l P).l (dlU g S.l P) := by
 have e1 := dl_out h hp hs hi hd
 have e2 := dl_Lk (g := g) h hp hs hi hd
 refine ⟨⟨n, D, G, N, B, hn, by rw [← e2]; exact hG, hT, hr, hk⟩, N, B, 9 * P.length, n, D, G, L, nki_jf hT hr hk, by have := hp.one; omega, hG.r, e1, fun r hne => ?_, fun r => Nat.le_trans (hl r) (by omega)⟩
 obtain ⟨x, hx⟩ := (hs r).inh hne
 rcases (hd (r, x)).1 ((hi r x).1 hx) with ⟨y, ⟨hy, _⟩, k1, _⟩ | ⟨y, hy, k1, _⟩
 ·have := has_rok (ok_okTo h) (ok_has h y hy)
  unfold Rok dtR at this; simp only at this k1; omega
 ·have := hp.dot y hy
  unfold Rok dtR at this; simp only at this k1; omega
theorem tre_none {w : World} {s s' B : Nat} (hk : MapF w 140 (α := Ky) keyV nodV s 0 (fun _ => none)) (hm : MapF w 55 (α := Dt) dtV mrkV s' 0 (fun _ => none)) (hne : s ≠ s') (hB : B ≤ s ∧ B ≤ s') : Tre w B (fun z => if z = [] then some (s, s') else none) (Mk [] 0) (9 * 0) ∧ NkI [] 0 (fun z => if z = [] then some (s, s') else none) := by
 refine ⟨Tre.new (x0 := (s, s')) hk hm hne hB, fun z => ?_⟩
 by_cases e : z = []
 ·simp [e]
 ·simp [e]
theorem dots_ok {S : Sx} (h : StOk S.R S.F S.T S.n S.l) {ds : List Dt} (hd : ∀ d ∈ ds, ∃ y ∈ S.l, y.r = d.1 ∧ y.q = d.2) : ∀ d ∈ ds, (0 ≤ d.1 ∧ d.1 < 8) ∧ 1 ≤ d.2 ∧ d.2 ≤ 1000000000 := fun d hm => by
 obtain ⟨y, hy, e1, e2⟩ := hd d hm
 have := has_rok (ok_okTo h) (ok_has h y hy)
 unfold Rok dtR at this; simp only at this; omega
theorem mkS_eta (l : List Lf) (u : List Rn) : mkS l u = mkS (mkS l u).l u := rfl
theorem takeBackC {x0 : Nat × Nat} {bm : Nat} {S : Sx} (gn : Lf → Prop) (p : List ByteArray) (a : Option Addr) (cp g kc : Nat) (ks : List Int) (w : World) (h : OpA w x0 bm S) (hs : StOk S.R S.F S.T S.n S.l)
  (hp : p.length ≤ 1048576) (hps : ∀ i, (gS p i).size ≤ 1048576) (hk : ∀ k ∈ ks, (Lit.int .i64 k).wf = true) (hkl : ks.length ≤ 3) (hsum : (ks.map fun k => cW S.l (wayOf p k)).sum ≤ 1000) (hgn : ∀ x ∈ S.l, gn x ↔ ∃ k ∈ ks, wayOf p k <+: Way x) (hseg : SSeg w a p) (hks : ISeg w g ks) :
  Calls Tryz.prog 30 #[.agg #[.map (some x0.1), .map (some x0.2), .map (some bm)], .slice a p.length cp, .slice (some ⟨g, 0, none⟩) ks.length kc] w fun e w' => ∃ a c x d a' c' x' d' mid, e = .returned (.tuple #[.agg #[.slice a (chX S (dlS gn S.l [])).l.length c, .slice x (chX S (dlS gn S.l [])).n d], .agg #[.slice a' (chY S (dlS gn S.l [])).l.length c', .slice x' (chY S (dlS gn S.l [])).n d'], .int .i64 (chC S (dlS gn S.l []))]) ∧ SOw w' w.heap.size mid a x d (chX S (dlS gn S.l [])) ∧ SOw w' mid w'.heap.size a' x' d' (chY S (dlS gn S.l [])) ∧ Below w.heap.size w w' := by
 obtain ⟨W, hW⟩ : ∃ W, ((w.alloc (.cells #[.map (some x0.1), .map (some x0.2), .map (some bm)] 68)).alloc (.cells #[.slice none 0 0, .slice none 0 0] 36)).alloc (.cells #[.slice none 0 0, .slice none 0 0] 36) = W := ⟨_, rfl⟩
 have b0 : Below w.heap.size w W := by rw [← hW]; exact (below2 _ _ _).alloc (by simp; omega) _
 have zW : W.heap.size = w.heap.size + 3 := by rw [← hW]; simp
 have al : ∀ (v : World) (o : Obj), Below v.heap.size v (v.alloc o) := fun v o => (Below.refl _ _).alloc (Nat.le_refl _) _
 have A0 : Bx3 W w.heap.size (.map (some x0.1)) (.map (some x0.2)) (.map (some bm)) := by
  rw [← hW]
  exact ((Bx3.made w _ _ _ _).below (al _ _) (by simp)).below (al _ _) (by simp; try omega)
 have R0 : Bx2 W (w.heap.size + 1) (.slice none 0 0) (.slice none 0 0) := by
  rw [← hW]
  have := Bx2.made (w.alloc (.cells #[.map (some x0.1), .map (some x0.2), .map (some bm)] 68)) (.slice none 0 0) (.slice none 0 0) 36
  exact (by simpa using this : Bx2 _ (w.heap.size + 1) _ _).allocs _
 have Q0 : Bx2 W (w.heap.size + 1 + 1) (.slice none 0 0) (.slice none 0 0) := by
  rw [← hW]
  simpa using Bx2.made ((w.alloc (.cells #[.map (some x0.1), .map (some x0.2), .map (some bm)] 68)).alloc (.cells #[.slice none 0 0, .slice none 0 0] 36)) (.slice none 0 0) (.slice none 0 0) 36
 obtain ⟨N, B, hT, hroot⟩ := (h.below b0).tj hs.2.2.2
 have h8 : ∀ x ∈ S.l, (Way x).length ≤ 8 := fun x hx => way8 (st_bd hs.w x hx).2.2.2
 have HDA := hid (dotsAtC hT hroot (by have := hs.2.1; omega) hs.2.1 h8 p a cp bm g kc ks hp hps hk hkl W (Below.refl _ _) (hseg.below b0) (hks.below b0))
 have HO := hid (h.below b0)
 have HS := hid hs
 have HGN := hid hgn
 have HSUM := hid hsum
 have HA0 := hid A0
 have HR0 := hid R0
 have HQ0 := hid Q0
 have HB0 := hid b0
 have HZW := hid zW
 have k0 := A0.c0
 have k1 := A0.c1
 have k2 := A0.c2
 clear b0 zW A0 R0 Q0 al h hs hgn hsum hT hroot h8 hseg hks hk hps
 go_enter Tryz.func30, Tryz.ntmps30
 go_wp2_with fail
 try rw [hW]
 clear hW
 refine HDA.out.mono ?_
 rintro e w1 ⟨⟨v1, ts, rfl, hd1, hm1, hl1⟩, b1⟩
 obtain ⟨ta, tc, rfl, hseg1, _, _⟩ := own_dseg hd1
 have hds : ∀ d : Dt, d ∈ ts ↔ (∃ y, (y ∈ S.l ∧ gn y) ∧ y.r = d.1 ∧ y.q = d.2) ∨ ∃ y ∈ ([] : List Lf), y.r = d.1 ∧ y.q = d.2 := fun d => by
  rw [hm1 d]
  constructor
  ·rintro ⟨k, hk, x, hx, hpre, e⟩
   exact .inl ⟨x, ⟨hx, (HGN.out x hx).2 ⟨k, hk, hpre⟩⟩, congrArg Prod.fst e, congrArg Prod.snd e⟩
  ·rintro (⟨y, ⟨hy, hg⟩, e1, e2⟩ | ⟨y, hy, _⟩)
   ·obtain ⟨k, hk, hpre⟩ := (HGN.out y hy).1 hg
    exact ⟨k, hk, y, hy, hpre, Prod.ext e1 e2⟩
   ·cases hy
 have HDS := hid hds
 have HSG := hid hseg1
 have HB1 := hid b1
 have HOK : Hid (DOk ts) := hid (dots_ok HS.out (fun d hd => by
  rcases (hds d).1 hd with ⟨y, ⟨hy, _⟩, e⟩ | ⟨y, hy, _⟩
  ·exact ⟨y, hy, e⟩
  ·cases hy))
 have HTL : Hid (ts.length ≤ 1000) := hid (by rw [hl1]; exact HSUM.out)
 have X1 := HA0.out.below b1 HA0.out.lt
 have j0 := X1.c0
 have j1 := X1.c1
 have j2 := X1.c2
 clear hd1 hm1 hl1 hds hseg1 b1 X1 k0 k1 k2 HDA
 have HX1 := hid (HA0.out.below HB1.out HA0.out.lt)
 have HSE : Hid (∀ w', Below w1.heap.size w1 w' → (w'.cell? ⟨w.heap.size, 0, none⟩ = some (.map (some x0.1)) ∧ w'.cell? ⟨w.heap.size, 1, none⟩ = some (.map (some x0.2)) ∧ w'.cell? ⟨w.heap.size, 2, none⟩ = some (.map (some bm)))) := hid (fun w' b => by
  have A1 := HX1.out.below b HX1.out.lt
  exact ⟨A1.c0, A1.c1, A1.c2⟩)
 clear j0 j1 j2
 go_wp2_with fail
 refine wp_region_held_drew (S := fun w' => w'.cell? ⟨w.heap.size, 0, none⟩ = some (.map (some x0.1)) ∧ w'.cell? ⟨w.heap.size, 1, none⟩ = some (.map (some x0.2)) ∧ w'.cell? ⟨w.heap.size, 2, none⟩ = some (.map (some bm))) (by kernel_rfl) (HSE.out _ (Below.refl _ _).drew) (fun hHeld => ?_)
 refine tk 0 14 ?_ (by kernel_rfl) (fun _ _ _ h => h) ?_ hHeld (tk 2 16 ?_ (by kernel_rfl) (fun _ _ _ h => h) ?_ hHeld ?_)
 iterate 2 (rotate_left; focus (intro o ho; simp only [gZa, gZb, gZc, gZd] at ho; subst ho; refine Or.inl ⟨by rfl, ?_⟩; intro w hSw; (try dsimp only at hSw); (try simp only [Act.put, sZa, sZb, sZc]); go_simp; try with_reducible rfl))
 try simp only [Act.put, sZa, sZb, sZc]
 refine call1 (i := 1) (d := some 15) (by kernel_rfl) (by kernel_rfl) ?_
 intro o ho hod K hK; simp only [gZa, gZb, gZc, gZd] at ho; subst ho
 go_simp
 refine (newNode _).mono ?_
 rintro e w2 ⟨s1, s2, rfl, hss, hs1, hs2, m1, m2, b2⟩
 have b2' : Below w1.heap.size w1 w2 := ⟨b2.os, b2.tape, b2.output, b2.size, b2.block⟩
 have HTN := hid (tre_none (B := w1.heap.size) m1 m2 hss ⟨hs1, hs2⟩)
 have HRO := hid (runsOfC ta tc ts w2 (by have := HTL.out; omega) HOK.out (HSG.out.below b2'))
 clear hss hs1 hs2 m1 m2 b2
 refine hK.out _ _ (HSE.out _ b2') (fun hHeld => ?_)
 clear hK K
 try simp only [Act.put, sZa, sZb, sZc]
 refine call1 (i := 3) (d := some 17) (by kernel_rfl) (by kernel_rfl) ?_
 intro o ho hod K hK; simp only [gZa, gZb, gZc, gZd] at ho; subst ho
 go_simp
 refine HRO.out.mono ?_
 rintro e w3 ⟨⟨bd, n, D, G, L, rfl, hn, hG, hsrt, hin, hlen, _⟩, b3⟩
 have b3' := keepS b2' b3
 have hop := dl_open (g := gn) (P := []) HS.out (PtO.nil S) hn hG hsrt hin hlen HDS.out (x0 := (s1, s2)) (HTN.out.1.below b3) (if_pos rfl) HTN.out.2
 have HCH := hid (changeC w3 ((HO.out.below HB1.out).below b3') hop.1 hop.2 (mkS_eta _ _) HS.out.w (dl_w HS.out (PtO.nil S)))
 have HB3 := hid b3'
 have HB13 := hid (keepS HB1.out b3')
 have HR3 := hid (HR0.out.below HB13.out HR0.out.lt)
 have HQ3 := hid (HQ0.out.below HB13.out HQ0.out.lt)
 clear hn hG hsrt hin hlen b3 hop HRO
 obtain ⟨X, hX⟩ : ∃ X, chX S (dlS gn S.l []) = X := ⟨_, rfl⟩
 obtain ⟨Y, hY⟩ : ∃ Y, chY S (dlS gn S.l []) = Y := ⟨_, rfl⟩
 obtain ⟨C, hC⟩ : ∃ C, chC S (dlS gn S.l []) = C := ⟨_, rfl⟩
 rw [hX, hY, hC] at HCH
 have HXYC := hid (And.intro hX (And.intro hY hC))
 clear hX hY hC
 refine hK.out _ _ (HSE.out _ b3') (fun hHeld => ?_)
 clear hK K
 try simp only [Act.put, sZa, sZb, sZc]
 refine tk 4 18 ?_ (by kernel_rfl) (fun _ _ _ h => h) ?_ hHeld ?_
 rotate_left
 ·(intro o ho; simp only [gZa, gZb, gZc, gZd] at ho; subst ho; refine Or.inl ⟨by rfl, ?_⟩; intro w hSw; (try dsimp only at hSw); go_simp; try with_reducible rfl)
 try simp only [Act.put, sZa, sZb, sZc]
 refine call1 (i := 5) (d := some 19) (by kernel_rfl) (by kernel_rfl) ?_
 intro o ho hod K hK; simp only [gZa, gZb, gZc, gZd] at ho; subst ho
 go_simp
 refine HCH.out.mono ?_
 rintro e w4 ⟨ra, rc, rx, rd, ra', rc', rx', rd', mid, rfl, ox, oy, b4⟩
 have R4 := HR3.out.below b4 HR3.out.lt
 have Q4 := HQ3.out.below b4 HQ3.out.lt
 have X4 := (HX1.out.below b3' HX1.out.lt).below b4 (HX1.out.below b3' HX1.out.lt).lt
 have HB4 := hid (keepS HB0.out (keepS HB13.out b4))
 have HOX := hid ox
 have HOY := hid oy
 have HZ3 : Hid (w.heap.size + 3 ≤ w3.heap.size) := hid (by have h1 := HZW.out; have h2 := HB13.out.size; omega)
 have b4' := keepS b3' b4
 clear ox oy
 refine hK.out _ _ (HSE.out _ b4') (fun hHeld => ?_)
 clear hK K
 try simp only [Act.put, sZa, sZb, sZc]
 refine tk 6 20 ?_ (by kernel_rfl) (fun _ _ _ h => h) ?_ hHeld (tk 7 21 ?_ (by kernel_rfl) (fun _ _ _ h => h) ?_ hHeld (tk 8 22 ?_ (by kernel_rfl) (fun _ _ _ h => h) ?_ hHeld ?_))
 iterate 3 (rotate_left; focus (intro o ho; simp only [gZa, gZb, gZc, gZd] at ho; subst ho; refine Or.inl ⟨by rfl, ?_⟩; intro w hSw; (try dsimp only at hSw); (try simp only [Act.put, sZa, sZb, sZc]); go_simp; try with_reducible rfl))
 try simp only [Act.put, sZa, sZb, sZc]
 have r0 := R4.c0
 have r1 := R4.c1
 have rf := R4.f
 have HC := hid (R4.set (.slice ra X.l.length rc) (.slice rx X.n rd))
 have HX5 := hid ((X4.far (grownSet w4 ⟨w.heap.size + 1, 0, none⟩ (.slice ra X.l.length rc)) (by show w.heap.size ≠ w.heap.size + 1; omega)).far (grownSet _ ⟨w.heap.size + 1, 1, none⟩ (.slice rx X.n rd)) (by show w.heap.size ≠ w.heap.size + 1; omega))
 have HQ5 := hid ((Q4.setAt ⟨w.heap.size + 1, 0, none⟩ (.slice ra X.l.length rc) (by show w.heap.size + 1 ≠ w.heap.size + 1 + 1; omega)).setAt ⟨w.heap.size + 1, 1, none⟩ (.slice rx X.n rd) (by show w.heap.size + 1 ≠ w.heap.size + 1 + 1; omega))
 have HX6 := hid ((HX5.out.far (grownSet _ ⟨w.heap.size + 1 + 1, 0, none⟩ (.slice ra' Y.l.length rc')) (by show w.heap.size ≠ w.heap.size + 1 + 1; omega)).far (grownSet _ ⟨w.heap.size + 1 + 1, 1, none⟩ (.slice rx' Y.n rd')) (by show w.heap.size ≠ w.heap.size + 1 + 1; omega))
 have HQ6 := hid (HQ5.out.set (.slice ra' Y.l.length rc') (.slice rx' Y.n rd'))
 have HC6 := hid ((HC.out.setAt ⟨w.heap.size + 1 + 1, 0, none⟩ (.slice ra' Y.l.length rc') (by show w.heap.size + 1 + 1 ≠ w.heap.size + 1; omega)).setAt ⟨w.heap.size + 1 + 1, 1, none⟩ (.slice rx' Y.n rd') (by show w.heap.size + 1 + 1 ≠ w.heap.size + 1; omega))
 refine call1 (i := 9) (d := none) (by kernel_rfl) (by kernel_rfl) ?_
 intro o ho hod K hK; simp only [gZa, gZb, gZc, gZd] at ho; subst ho
 go_simp
 refine hK.out _ _ ⟨HX5.out.c0, HX5.out.c1, HX5.out.c2⟩ (fun hHeld => ?_)
 clear hK K
 try simp only [Act.put, sZa, sZb, sZc]
 clear r0 r1 rf
 have r0 := HQ5.out.c0
 have r1 := HQ5.out.c1
 have rf := HQ5.out.f
 refine call1 (i := 10) (d := none) (by kernel_rfl) (by kernel_rfl) ?_
 intro o ho hod K hK; simp only [gZa, gZb, gZc, gZd] at ho; subst ho
 go_simp
 refine hK.out _ _ ⟨HX6.out.c0, HX6.out.c1, HX6.out.c2⟩ (fun hHeld => ?_)
 clear hK K
 try simp only [Act.put, sZa, sZb, sZc]
 refine tk 11 8 ?_ (by kernel_rfl) (fun _ _ _ h => h) ?_ hHeld ?_
 rotate_left
 ·(intro o ho; simp only [gZa, gZb, gZc, gZd] at ho; subst ho; refine Or.inl ⟨by rfl, ?_⟩; intro w hSw; (try dsimp only at hSw); go_simp; try with_reducible rfl)
 try simp only [Act.put, sZa, sZb, sZc]
 refine wpAnyH_done (by kernel_rfl) ?_ _
 clear hHeld b2' b3' b4 b4' R4 Q4 X4 r0 r1 rf HCH HSE
 go_wp2_with fail
 have s0 := HC6.out.c0
 have s1 := HC6.out.c1
 have s2 := HQ6.out.c0
 have s3 := HQ6.out.c1
 refine bodyPost_ret (v := .tuple #[.agg #[.slice ra X.l.length rc, .slice rx X.n rd], .agg #[.slice ra' Y.l.length rc', .slice rx' Y.n rd'], .int .i64 C]) (by simp [results, Tryz.results30, go_sem, s0, s1, s2, s3]) rfl ⟨ra, rc, rx, rd, ra', rc', rx', rd', by rw [HXYC.out.1, HXYC.out.2.1, HXYC.out.2.2], mid, ?_, ?_, ?_⟩
 ·rw [HXYC.out.1]
  have hz := HZ3.out
  have h1 := HOX.out
  exact SOw.wide ((((h1.set ⟨w.heap.size + 1, 0, none⟩ (.slice ra X.l.length rc) (.inl (by show w.heap.size + 1 < w3.heap.size; omega))).set ⟨w.heap.size + 1, 1, none⟩ (.slice rx X.n rd) (.inl (by show w.heap.size + 1 < w3.heap.size; omega))).set ⟨w.heap.size + 1 + 1, 0, none⟩ (.slice ra' Y.l.length rc') (.inl (by show w.heap.size + 1 + 1 < w3.heap.size; omega))).set ⟨w.heap.size + 1 + 1, 1, none⟩ (.slice rx' Y.n rd') (.inl (by show w.heap.size + 1 + 1 < w3.heap.size; omega))) (by omega) (Nat.le_refl _) (by simp [World.setCell]; exact Nat.le_trans HOY.out.hl.1 HOY.out.hl.2)
 ·rw [HXYC.out.2.1]
  have hz := HZ3.out
  have hmid : w3.heap.size ≤ mid := HOX.out.hl.1
  have h1 := HOY.out
  exact SOw.wide ((((h1.set ⟨w.heap.size + 1, 0, none⟩ (.slice ra X.l.length rc) (.inl (by show w.heap.size + 1 < mid; omega))).set ⟨w.heap.size + 1, 1, none⟩ (.slice rx X.n rd) (.inl (by show w.heap.size + 1 < mid; omega))).set ⟨w.heap.size + 1 + 1, 0, none⟩ (.slice ra' Y.l.length rc') (.inl (by show w.heap.size + 1 + 1 < mid; omega))).set ⟨w.heap.size + 1 + 1, 1, none⟩ (.slice rx' Y.n rd') (.inl (by show w.heap.size + 1 + 1 < mid; omega))) (Nat.le_refl _) (by simp [World.setCell]) (Nat.le_refl _)
 ·exact (((HB4.out.setCell (by simp) _).setCell (by simp) _).setCell (by simp; omega) _).setCell (by simp; omega) _
noncomputable def ocC (S : Sx) (p : List ByteArray) (v : ByteArray) : Int := if stB S = true then (if yes (PthOk p ∧ v.size ≤ 200) = true then 0 else 2) else 1
theorem ocC_1 {S : Sx} {p : List ByteArray} {v : ByteArray} (h : stB S = false) : ocC S p v = 1 := by unfold ocC; rw [if_neg (by rw [h]; simp)]
theorem ocC_2 {S : Sx} {p : List ByteArray} {v : ByteArray} (h : stB S = true) (hn : ¬ (PthOk p ∧ v.size ≤ 200)) : ocC S p v = 2 := by unfold ocC; rw [if_pos h, if_neg (by rw [yes_f hn]; simp)]
theorem ocC_0 {S : Sx} {p : List ByteArray} {v : ByteArray} (h : stB S = true) (hn : PthOk p ∧ v.size ≤ 200) : ocC S p v = 0 := by unfold ocC; rw [if_pos h, if_pos (yes_t hn)]
theorem ocC_ok {S : Sx} {p : List ByteArray} {v : ByteArray} (h : ocC S p v = 0) : stB S = true ∧ PthOk p ∧ v.size ≤ 200 := by
 cases hb : stB S with
 | false => rw [ocC_1 hb] at h; cases h
 | true =>
  by_cases hn : PthOk p ∧ v.size ≤ 200
  ·exact ⟨rfl, hn⟩
  ·rw [ocC_2 hb hn] at h; cases h
theorem OpA.far {w w' : World} {x0 : Nat × Nat} {bm : Nat} {S : Sx} (h : OpA w x0 bm S) {t : Nat} {ty : TypeId} (ht : ∃ cs f, w.heap[t]? = some (.cells cs ty f)) (hty : ty ≠ 135) (hg : w.grownBy w' (some t)) : OpA w' x0 bm S := by
 obtain ⟨n, D, G, N, B, h0, h1, h2, h3, h4⟩ := h
 obtain ⟨cs, f, ht⟩ := ht
 refine ⟨n, D, G, N, B, h0, ⟨h1.own.kept hg (fun e => ?_), h1.at', h1.has', fun r => (h1.rows r).kept hg ?_, h1.apart⟩, h2.same fun p x hx => ⟨hg.block _ (h2.lt hx).1 (fun e => ?_), hg.block _ (h2.lt hx).2 (fun e => ?_)⟩, h3, h4⟩
 ·obtain ⟨es, clock, hb, _⟩ := h1.own
  injection e with e; rw [e, ht] at hb; cases hb
 ·rcases (h1.rows r).2 with ⟨e0, _⟩ | ⟨g, cap, cur, hv, _, hb, _⟩
  ·rw [e0]; exact .inl rfl
  ·refine .inr fun e => ?_
   rw [hv] at e
   have e1 : g = t := by simpa [Value.ownBlock] using e
   rw [e1, ht] at hb
   injection hb with hb
   injection hb with _ hb
   exact hty hb
 ·obtain ⟨es, cl, hob⟩ := (h2.kids p x hx).obj
  injection e with e; rw [e, ht] at hob; cases hob
 ·obtain ⟨es, cl, hob⟩ := (h2.marks p x hx).obj
  injection e with e; rw [e, ht] at hob; cases hob
theorem openToChangeC (a x pa : Option Addr) (c d pc : Nat) (S : Sx) (p : List ByteArray) (v : ByteArray) (w : World) (hm : S.Sm) (hi : ∀ i, LfI (gL S.l i)) (h : SAt w a x S) (hp : p.length ≤ 1048576) (hseg : SSeg w pa p) (hv : v.size ≤ 1048576) :
  Calls Tryz.prog 29 #[.agg #[.slice a S.l.length c, .slice x S.n d], .slice pa p.length pc, .string v] w fun e w' => (∃ u0 u1 u2, e = .returned (.tuple #[.agg #[.map u0, .map u1, .map u2], .int .i64 (ocC S p v)]) ∧ (ocC S p v = 0 → ∃ x0 bm, u0 = some (Prod.fst x0) ∧ u1 = some (Prod.snd x0) ∧ u2 = some bm ∧ OpA w' x0 bm S)) ∧ Below w.heap.size w w' := by
 obtain ⟨W, hW⟩ : ∃ W, (w.alloc (.cells #[.slice a S.l.length c, .slice x S.n d] 36)).alloc (.cells #[.map none, .map none, .map none] 68) = W := ⟨_, rfl⟩
 have b0 : Below w.heap.size w W := by rw [← hW]; exact below2 _ _ _
 have A0 : Bx2 W w.heap.size (.slice a S.l.length c) (.slice x S.n d) := by rw [← hW]; exact (Bx2.made w _ _ _).allocs _
 have R0 : Bx3 W (w.heap.size + 1) (.map none) (.map none) (.map none) := by
  rw [← hW]
  simpa using Bx3.made (w.alloc (.cells #[.slice a S.l.length c, .slice x S.n d] 36)) (.map none) (.map none) (.map none) 68
 have zW : W.heap.size = w.heap.size + 2 := by rw [← hW]; simp
 have HTG : Hid (∃ cs f, W.heap[w.heap.size + 1]? = some (.cells cs 68 f)) := hid (by
  rw [← hW]
  have := heap_alloc_new (w.alloc (.cells #[.slice a S.l.length c, .slice x S.n d] 36)) (.cells #[.map none, .map none, .map none] 68)
  exact ⟨_, _, by simpa using this⟩)
 have HOP := hid (openB a x c d S W hm hi (h.below b0))
 have HSG := hid (hseg.below b0)
 have HB0 := hid b0
 have HR0 := hid R0
 have HZW := hid zW
 have k0 := A0.c0
 have k1 := A0.c1
 obtain ⟨V, hV⟩ : ∃ V, stB S = V := ⟨_, rfl⟩
 have HSB := hid hV
 rw [hV] at HOP
 clear b0 A0 R0 zW h hseg hV hi hm
 go_enter Tryz.func29, Tryz.ntmps29
 go_wp2_with fail
 try rw [hW]
 clear hW
 refine HOP.out.mono ?_
 rintro e w1 ⟨⟨u0, u1, u2, rfl, ho⟩, b1⟩
 have HO1 := hid ho
 obtain ⟨w2, hw2⟩ : ∃ w2, w1.alloc (.cells #[.map u0, .map u1, .map u2] 68) = w2 := ⟨_, rfl⟩
 have b2 : Below w1.heap.size w1 w2 := by rw [← hw2]; exact (Below.refl _ _).alloc (Nat.le_refl _) _
 have HX2 : Hid (Bx3 w2 w1.heap.size (.map u0) (.map u1) (.map u2)) := hid (by rw [← hw2]; exact Bx3.made _ _ _ _ _)
 have HW2 := hid (keepS b1 b2)
 have HB12 := hid b2
 have HB2 := hid (keepS HB0.out HW2.out)
 have HR2 := hid (HR0.out.below HW2.out HR0.out.lt)
 have HS2 := hid (HSG.out.below HW2.out)
 clear b1 b2 ho k0 k1 HOP
 have t0 := HR2.out.c0
 have t1 := HR2.out.c1
 have t2 := HR2.out.c2
 have tf := HR2.out.f
 cases V with
 | false =>
  have HE := hid (ocC_1 (p := p) (v := v) HSB.out)
  have HR3 := hid (HR2.out.set (.map none) (.map none) (.map none))
  go_wp2_with fail
  try rw [hw2]
  clear hw2
  have s0 := HR3.out.c0
  have s1 := HR3.out.c1
  have s2 := HR3.out.c2
  refine bodyPost_ret (v := .tuple #[.agg #[.map none, .map none, .map none], .int .i64 1]) (by simp [results, Tryz.results29, go_sem, s0, s1, s2]) rfl ⟨⟨none, none, none, by rw [HE.out], fun h0 => by rw [HE.out] at h0; cases h0⟩, ?_⟩
  exact ((HB2.out.setCell (by simp) _).setCell (by simp) _).setCell (by simp) _
 | true =>
  have HPO := hid (pathImpl p pa pc w2 hp HS2.out)
  by_cases hpo : PthOk p
  ·rw [yes_t hpo] at HPO
   by_cases hvs : v.size ≤ 200
   ·have i1 : (v.size : Int) ≤ 200 := by omega
    have i2 : ¬ (200 : Int) < (v.size : Int) := by omega
    have HE := hid (ocC_0 HSB.out (And.intro hpo hvs))
    have HR3 := hid (HR2.out.set (.map u0) (.map u1) (.map u2))
    have x0 := HX2.out.c0
    have x1 := HX2.out.c1
    have x2 := HX2.out.c2
    clear hpo hvs
    go_wp2_with fail
    try rw [hw2]
    clear hw2
    refine HPO.out.mono ?_
    rintro e w3 ⟨rfl, rfl⟩
    go_wp2_with fail
    have s0 := HR3.out.c0
    have s1 := HR3.out.c1
    have s2 := HR3.out.c2
    refine bodyPost_ret (v := .tuple #[.agg #[.map u0, .map u1, .map u2], .int .i64 0]) (by simp [results, Tryz.results29, go_sem, s0, s1, s2]) rfl ⟨⟨u0, u1, u2, by rw [HE.out], fun _ => ?_⟩, ?_⟩
    ·obtain ⟨y0, bm, e0, e1, e2, o1⟩ := HO1.out (by trivial)
     refine ⟨y0, bm, e0, e1, e2, ?_⟩
     obtain ⟨cs, f, ht⟩ := HTG.out
     have hb := HW2.out.block (w.heap.size + 1) (by have := HZW.out; omega)
     exact (o1.below HB12.out).far ⟨cs, f, hb.trans ht⟩ (by decide) (far3 _ _ _ _ _)
    ·exact ((HB2.out.setCell (by simp) _).setCell (by simp) _).setCell (by simp) _
   ·have i1 : ¬ (v.size : Int) ≤ 200 := by omega
    have i2 : (200 : Int) < (v.size : Int) := by omega
    have HE := hid (ocC_2 HSB.out (show ¬ (PthOk p ∧ v.size ≤ 200) from fun hh => hvs hh.2))
    have HR3 := hid (HR2.out.set (.map none) (.map none) (.map none))
    clear hpo hvs
    go_wp2_with fail
    try rw [hw2]
    clear hw2
    refine HPO.out.mono ?_
    rintro e w3 ⟨rfl, rfl⟩
    go_wp2_with fail
    have s0 := HR3.out.c0
    have s1 := HR3.out.c1
    have s2 := HR3.out.c2
    refine bodyPost_ret (v := .tuple #[.agg #[.map none, .map none, .map none], .int .i64 2]) (by simp [results, Tryz.results29, go_sem, s0, s1, s2]) rfl ⟨⟨none, none, none, by rw [HE.out], fun h0 => by rw [HE.out] at h0; cases h0⟩, ?_⟩
    exact ((HB2.out.setCell (by simp) _).setCell (by simp) _).setCell (by simp) _
  ·rw [yes_f hpo] at HPO
   have HE := hid (ocC_2 HSB.out (show ¬ (PthOk p ∧ v.size ≤ 200) from fun hh => hpo hh.1))
   have HR3 := hid (HR2.out.set (.map none) (.map none) (.map none))
   clear hpo
   go_wp2_with fail
   try rw [hw2]
   clear hw2
   refine HPO.out.mono ?_
   rintro e w3 ⟨rfl, rfl⟩
   go_wp2_with fail
   have s0 := HR3.out.c0
   have s1 := HR3.out.c1
   have s2 := HR3.out.c2
   refine bodyPost_ret (v := .tuple #[.agg #[.map none, .map none, .map none], .int .i64 2]) (by simp [results, Tryz.results29, go_sem, s0, s1, s2]) rfl ⟨⟨none, none, none, by rw [HE.out], fun h0 => by rw [HE.out] at h0; cases h0⟩, ?_⟩
   exact ((HB2.out.setCell (by simp) _).setCell (by simp) _).setCell (by simp) _
end Go.Proofs.YtcbcabhjododoaaGreat
