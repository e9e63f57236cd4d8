import Derived.Test.YtcbcabhjododoaaGreatFg46
import Derived.Test.YtcbcabhjododoaaGreatFg15
set_option linter.unusedVariables false
set_option linter.unusedSimpArgs false
set_option maxRecDepth 100000
set_option maxHeartbeats 40000000
namespace Go.Proofs.YtcbcabhjododoaaGreat.fnExactSetFlag
open Go.ChangeShapes Go.WideShapes Go.ChangeAt Go.RowKit
theorem walk (a x pa : Option Addr) (c d pc : Nat) (S : Sx) (p : List ByteArray) (rep : Int) (on : Bool) (w : World) (hb : S.Big) (hT : I64 S.T) (hpb : PBig p) (h : SAt w a x S) (hs : SSeg w pa p) (hrep : (Lit.int .i64 rep).wf = true) :
  Calls Tryz.prog 5 #[.agg #[.slice a S.l.length c, .slice x S.n d], .int .i64 rep, .slice pa p.length pc, .bool on] w fun e w' => e = .returned (.bool true) ∧ Below w.heap.size w w' := by
 obtain ⟨W, hW⟩ : ∃ W, w.alloc (.cells #[.slice a S.l.length c, .slice x S.n d] 27) = W := ⟨_, rfl⟩
 have b0 : Below w.heap.size w W := by rw [← hW]; exact (Below.refl _ _).alloc (Nat.le_refl _) _
 have A0 : Bx2 W w.heap.size (.slice a S.l.length c) (.slice x S.n d) := by rw [← hW]; exact Bx2.made _ _ _ _
 have HSZ := hid (szStateC a c S.l x S.n d 1048576 W (by omega) (by omega) hb.l1 hb.n1 hb.b1 (h.below b0).lf)
 have HSA := hid h
 have HSG := hid hs
 have HIA := hid hb.i1
 have HTT := hid hT
 have HPB := hid hpb
 have HB0 := hid b0
 have HBA0 := hid A0
 have k0 := A0.c0
 have k1 := A0.c1
 clear h hs b0 A0 hb hT hpb
 go_enter Tryz.func5, Tryz.ntmps5
 go_wp2_with fail
 try rw [hW]
 clear hW
 refine HSZ.out.mono ?_
 rintro e w1 ⟨⟨k', rfl, hk0, hk1, hsm⟩, b1⟩
 have HBA1 := hid (HBA0.out.below b1 HBA0.out.lt)
 have HB1 := hid (keepS HB0.out b1)
 have HSM := hid hsm
 clear hsm b1 HSZ HB0 k0 k1 HBA0
 by_cases hneg : k' < 0
 case pos =>
  have d0 : decide (k' < 0) = true := by simpa using hneg
  clear HSM
  go_wp2_with fail
  go_ret
  exact ⟨rfl, HB1.out⟩
 have d0 : decide (k' < 0) = false := by simpa using hneg
 have hm : S.Sm := by
  obtain ⟨⟨hl, hlf⟩, hr⟩ := HSM.out (by omega)
  exact ⟨hl, fun i => (hlf i).1.1, hr⟩
 have HZ := hid (szStrings pa pc p k' w1 (by omega) (by omega) HPB.out (HSG.out.below HB1.out))
 clear HSM
 go_wp2_with fail
 refine HZ.out.mono ?_
 rintro e w2 ⟨⟨k'', rfl, hk2, hk3, hsm⟩, rfl⟩
 have HSM := hid hsm
 clear hsm HZ d0
 by_cases hneg2 : k'' < 0
 case pos =>
  have d0 : decide (k'' < 0) = true := by simpa using hneg2
  clear HSM
  go_wp2_with fail
  go_ret
  exact ⟨rfl, HB1.out⟩
 have d0 : decide (k'' < 0) = false := by simpa using hneg2
 have hpl : p.length ≤ 1048576 := (HSM.out (by omega)).1
 have HSX := hid (se_sm S rep p true on ⟨#[]⟩ (fun _ => by simp [emB]))
 obtain ⟨X, hX⟩ : ∃ X, seX S rep p true on ⟨#[]⟩ = X := ⟨_, rfl⟩
 obtain ⟨Y, hY⟩ : ∃ Y, seY S rep p true on ⟨#[]⟩ = Y := ⟨_, rfl⟩
 obtain ⟨CC, hC⟩ : ∃ CC, seC S rep p true on ⟨#[]⟩ = CC := ⟨_, rfl⟩
 rw [hX, hY] at HSX
 obtain ⟨XL, hXL⟩ : ∃ XL, X.l.length = XL := ⟨_, rfl⟩
 obtain ⟨XN, hXN⟩ : ∃ XN, X.n = XN := ⟨_, rfl⟩
 obtain ⟨YL, hYL⟩ : ∃ YL, Y.l.length = YL := ⟨_, rfl⟩
 obtain ⟨YN, hYN⟩ : ∃ YN, Y.n = YN := ⟨_, rfl⟩
 have HSP : Hid (∀ (g k q lo hi : Nat) (w : World), SNw w lo hi g k S → SSeg w (some ⟨q, 0, none⟩) p → Calls Tryz.prog 19 #[.agg #[.slice (some ⟨g, 0, none⟩) S.l.length S.l.length, .slice (some ⟨k, 0, none⟩) S.n S.n], .int .i64 rep, .slice (some ⟨q, 0, none⟩) p.length p.length, .bool on] w fun e w' => ∃ a m x t a' m' x' t', e = .returned (.tuple #[.agg #[.slice a XL m, .slice x XN t], .agg #[.slice a' YL m', .slice x' YN t'], .int .i64 CC]) ∧ SNj w' w.heap.size a x X ∧ SNj w' w.heap.size a' x' Y ∧ Below w.heap.size w w') := hid (fun g k q lo hi w h1 h2 => by
  have := specSetFlag (some ⟨g, 0, none⟩) S.l.length k 0 S.n (some ⟨q, 0, none⟩) p.length S rep p on w hm HTT.out h1.cap.cap h1.rn hpl ⟨Nat.le_refl _, by omega⟩ h2
  rw [hX, hY, hC, hXL, hXN, hYL, hYN] at this
  refine this.mono ?_
  rintro e w' ⟨a, m, x, t, a', m', x', t', e1, e2, e3, e4⟩
  exact ⟨a, m, x, t, a', m', x', t', e1, e2.nj, e3.nj, e4⟩)
 have HIM : Hid (∀ (a x q : Option Addr) (w : World), SAt w a x S → SSeg w q p → Calls Tryz.prog 20 #[.agg #[.slice a S.l.length S.l.length, .slice x S.n S.n], .int .i64 rep, .slice q p.length p.length, .bool on] w fun e w' => ∃ a m x t a' m' x' t' mid, e = .returned (.tuple #[.agg #[.slice a XL m, .slice x XN t], .agg #[.slice a' YL m', .slice x' YN t'], .int .i64 CC]) ∧ SOw w' w.heap.size mid a x t X ∧ SOw w' mid w'.heap.size a' x' t' Y ∧ Below w.heap.size w w') := hid (fun a x q w h1 h2 => by
  have := implSetFlag a x q S.l.length S.n p.length S rep p on w hm HIA.out h1 hpl h2 hrep
  rw [hX, hY, hC, hXL, hXN, hYL, hYN] at this
  exact this)
 have HEX : Hid (∀ (a x a' x' : Option Addr) (c d c' d' : Nat) (w : World), SAt w a x X → SAt w a' x' X → Calls Tryz.prog 12 #[.agg #[.slice a XL c, .slice x XN d], .agg #[.slice a' XL c', .slice x' XN d']] w fun e w' => e = .returned (.bool true) ∧ Below w.heap.size w w') := hid (fun a x a' x' c d c' d' w h1 h2 => by
  have := eqStateC a a' c c' X.l x x' X.n d d' X.R X.F X.T w HSX.out.1.l1 HSX.out.1.p1 HSX.out.1.n1 h1.lf h2.lf h1.rn h2.rn
  rw [hXL, hXN] at this; exact this)
 have HEY : Hid (∀ (a x a' x' : Option Addr) (c d c' d' : Nat) (w : World), SAt w a x Y → SAt w a' x' Y → Calls Tryz.prog 12 #[.agg #[.slice a YL c, .slice x YN d], .agg #[.slice a' YL c', .slice x' YN d']] w fun e w' => e = .returned (.bool true) ∧ Below w.heap.size w w') := hid (fun a x a' x' c d c' d' w h1 h2 => by
  have := eqStateC a a' c c' Y.l x x' Y.n d d' Y.R Y.F Y.T w HSX.out.2.l1 HSX.out.2.p1 HSX.out.2.n1 h1.lf h2.lf h1.rn h2.rn
  rw [hYL, hYN] at this; exact this)
 obtain ⟨M1, hM1⟩ : ∃ M1, mE X 1 = M1 := ⟨_, rfl⟩
 obtain ⟨M2, hM2⟩ : ∃ M2, mE Y M1 = M2 := ⟨_, rfl⟩
 have HM1 : Hid (M1 ≤ 4000000000000) := hid (by rw [← hM1]; have := (mE_le HSX.out.1 1).1; omega)
 have HMX : Hid (∀ (w : World) (a x : Option Addr) (c d lo hi : Nat), SOw w lo hi a x d X → Calls Tryz.prog 14 #[.agg #[.slice a XL c, .slice x XN d], .int .i64 1] w fun e w' => e = .returned (.int .i64 (M1 : Int)) ∧ Btw lo hi w w' ∧ SMkN w' lo hi a x X 1) := hid (fun w a x c d lo hi h => by
  have := markStateO (c := c) h HSX.out.1 1 (by omega)
  rw [hXL, hXN, hM1] at this
  simpa using this)
 have HMY : Hid (∀ (w : World) (a x : Option Addr) (c d lo hi : Nat), SOw w lo hi a x d Y → Calls Tryz.prog 14 #[.agg #[.slice a YL c, .slice x YN d], .int .i64 (M1 : Int)] w fun e w' => e = .returned (.int .i64 (M2 : Int)) ∧ Btw lo hi w w' ∧ SMkN w' lo hi a x Y M1) := hid (fun w a x c d lo hi h => by
  have := markStateO (c := c) h HSX.out.2 M1 HM1.out
  rw [hYL, hYN, hM2] at this
  exact this)
 have HHX : Hid (∀ (w : World) (a x : Option Addr) (c d : Nat), SMk w a x X 1 → Calls Tryz.prog 16 #[.agg #[.slice a XL c, .slice x XN d], .int .i64 1] w fun e w' => e = .returned (.int .i64 (M1 : Int)) ∧ Below w.heap.size w w') := hid (fun w a x c d h => by
  have := heldStateO (c := c) (d := d) HSX.out.1 1 (by omega) h
  rw [hXL, hXN, hM1] at this
  simpa using this)
 have HHY : Hid (∀ (w : World) (a x : Option Addr) (c d : Nat), SMk w a x Y M1 → Calls Tryz.prog 16 #[.agg #[.slice a YL c, .slice x YN d], .int .i64 (M1 : Int)] w fun e w' => e = .returned (.int .i64 (M2 : Int)) ∧ Below w.heap.size w w') := hid (fun w a x c d h => by
  have := heldStateO (c := c) (d := d) HSX.out.2 M1 HM1.out h
  rw [hYL, hYN, hM2] at this
  exact this)
 have dC : (CC != CC) = false := by simp
 have hCC : (CC == CC) = true := by simp
 have k0 := HBA1.out.c0
 have k1 := HBA1.out.c1
 clear HSM hX hY hC hXL hXN hYL hYN hM1 hM2 HSX
 go_wp2_with fail
 refine (toSt a x c d S w2 hm (HSA.out.below HB1.out)).mono ?_
 rintro e w3 ⟨g3, k3, rfl, s3, b3⟩
 have HB3 := hid (keepS HB1.out b3)
 have HBA3 := hid (HBA1.out.below b3 HBA1.out.lt)
 have HS3 := hid s3
 clear s3 b3 k0 k1 HBA1
 go_wp2_with fail
 refine (toStrings pa pc p w3 hpl (HSG.out.below HB3.out)).mono ?_
 rintro e w4 ⟨rfl, t4, b4, _, _⟩
 have HB4 := hid (keepS HB3.out b4)
 have HBA4 := hid (HBA3.out.below b4 HBA3.out.lt)
 have HCS := hid (HSP.out g3 k3 w3.heap.size _ _ w4 (HS3.out.below b4) t4)
 clear t4 b4 HBA3 HS3 HB3
 go_wp2_with fail
 refine HCS.out.mono ?_
 rintro e w5 ⟨sa, sm, sx, st, sa', sm', sx', st', rfl, nX, nY, b5⟩
 obtain ⟨u6, hu6⟩ : ∃ u6, (w5.alloc (.cells #[.slice none 0 0, .slice none 0 0] 36)).alloc (.cells #[.slice none 0 0, .slice none 0 0] 36) = u6 := ⟨_, rfl⟩
 have bu6 : Below w5.heap.size w5 u6 := by rw [← hu6]; exact below2 _ _ _
 have U1 : Bx2 u6 (w5.heap.size) (.slice none 0 0) (.slice none 0 0) := by rw [← hu6]; exact (Bx2.made _ _ _ _).allocs _
 have U2 : Bx2 u6 (w5.heap.size + 1) (.slice none 0 0) (.slice none 0 0) := by
  rw [← hu6]
  simpa using Bx2.made (w5.alloc (.cells #[.slice none 0 0, .slice none 0 0] 36)) (.slice none 0 0) (.slice none 0 0) 36
 have TB := twoB U1 U2 (show w5.heap.size ≠ w5.heap.size + 1 by omega) (.slice sa XL sm) (.slice sx XN st) ((.slice sa' YL sm')) ((.slice sx' YN st'))
 have r0 := U1.c0
 have r1 := U1.c1
 have rf := U1.f
 have q0 := TB.1.c0
 have q1 := TB.1.c1
 have qf := TB.1.f
 obtain ⟨w6, hw6⟩ : ∃ w6, (((u6.setCell ⟨w5.heap.size, 0, none⟩ (.slice sa XL sm)).setCell ⟨w5.heap.size, 1, none⟩ (.slice sx XN st)).setCell ⟨w5.heap.size + 1, 0, none⟩ ((.slice sa' YL sm'))).setCell ⟨w5.heap.size + 1, 1, none⟩ ((.slice sx' YN st')) = w6 := ⟨_, rfl⟩
 have HB16 : Hid (Bx2 w6 (w5.heap.size) (.slice sa XL sm) (.slice sx XN st)) := hid (by rw [← hw6]; exact TB.2.1)
 have HB26 : Hid (Bx2 w6 (w5.heap.size + 1) ((.slice sa' YL sm')) ((.slice sx' YN st'))) := hid (by rw [← hw6]; exact TB.2.2)
 have HBN6 : Hid (Below w5.heap.size w5 w6) := hid (by rw [← hw6]; exact below4 bu6 (Nat.le_refl _) (Nat.le_succ _) _ _ _ _)
 have HSZ6 : Hid (w6.heap.size = w5.heap.size + 2) := hid (by rw [← hw6, ← hu6]; simp [World.setCell])
 clear U1 U2 TB bu6
 have HX6 : Hid (SAt w6 sa sx X) := hid (nX.low HBN6.out)
 have HY6 : Hid (SAt w6 sa' sx' Y) := hid (nY.low HBN6.out)
 have HW6 := hid (keepS HB4.out (keepS b5 HBN6.out))
 have HBA6 := hid (HBA4.out.below (keepS b5 HBN6.out) HBA4.out.lt)
 have HWZ : Hid (w.heap.size < w6.heap.size) := hid HBA6.out.lt
 have p0 := HBA6.out.c0
 have p1 := HBA6.out.c1
 clear nX nY b5 HCS HBA4 HB4 HB1 HSP
 go_wp2_with fail
 try rw [hu6]
 try rw [hw6]
 clear hu6 hw6 r0 r1 rf q0 q1 qf
 refine (toSt a x c d S w6 hm (HSA.out.below HW6.out)).mono ?_
 rintro e w7 ⟨g7, k7, rfl, s7, b7⟩
 obtain ⟨w8, hw8⟩ : ∃ w8, w7.alloc (.cells #[.slice (some ⟨g7, 0, none⟩) S.l.length S.l.length, .slice (some ⟨k7, 0, none⟩) S.n S.n] 36) = w8 := ⟨_, rfl⟩
 have b8 : Below w7.heap.size w7 w8 := by rw [← hw8]; exact (Below.refl _ _).alloc (Nat.le_refl _) _
 have HZ8 : Hid (w6.heap.size ≤ w7.heap.size ∧ w8.heap.size = w7.heap.size + 1) := hid ⟨b7.size, by rw [← hw8]; simp⟩
 have HX8 : Hid (Bx2 w8 w7.heap.size (.slice (some ⟨g7, 0, none⟩) S.l.length S.l.length) (.slice (some ⟨k7, 0, none⟩) S.n S.n)) := hid (by rw [← hw8]; exact Bx2.made _ _ _ _)
 have HS8 := hid (s7.below b8)
 have HK8 := hid (keepS b7 b8)
 clear s7 b7 b8 p0 p1
 go_wp2_with fail
 try rw [hw8]
 clear hw8
 refine (toStrings pa pc p w8 hpl (HSG.out.below (keepS HW6.out HK8.out))).mono ?_
 rintro e w9 ⟨rfl, t9, b9, z9, xs9, o9⟩
 have HT9 := hid t9
 have HPM9 := hid (PMk.of o9)
 have HZ9 := hid z9
 have HX9 := hid (HX8.out.below b9 HX8.out.lt)
 have HS9 := hid (HS8.out.below b9)
 have HK9 := hid (keepS HK8.out b9)
 have p0 := HX9.out.c0
 have p1 := HX9.out.c1
 clear t9 b9 z9 o9 HX8 HS8 HK8
 go_wp2_with fail
 refine (HIM.out (some ⟨g7, 0, none⟩) (some ⟨k7, 0, none⟩) (some ⟨w8.heap.size, 0, none⟩) w9 HS9.out.at HT9.out).mono ?_
 rintro e w10 ⟨ga, gm, gx, gt, ga', gm', gx', gt', mid, rfl, ox, oy, b10⟩
 obtain ⟨u11, hu11⟩ : ∃ u11, (w10.alloc (.cells #[.slice none 0 0, .slice none 0 0] 36)).alloc (.cells #[.slice none 0 0, .slice none 0 0] 36) = u11 := ⟨_, rfl⟩
 have bu11 : Below w10.heap.size w10 u11 := by rw [← hu11]; exact below2 _ _ _
 have U1 : Bx2 u11 (w10.heap.size) (.slice none 0 0) (.slice none 0 0) := by rw [← hu11]; exact (Bx2.made _ _ _ _).allocs _
 have U2 : Bx2 u11 (w10.heap.size + 1) (.slice none 0 0) (.slice none 0 0) := by
  rw [← hu11]
  simpa using Bx2.made (w10.alloc (.cells #[.slice none 0 0, .slice none 0 0] 36)) (.slice none 0 0) (.slice none 0 0) 36
 have TB := twoB U1 U2 (show w10.heap.size ≠ w10.heap.size + 1 by omega) (.slice ga XL gm) (.slice gx XN gt) ((.slice ga' YL gm')) ((.slice gx' YN gt'))
 have r0 := U1.c0
 have r1 := U1.c1
 have rf := U1.f
 have q0 := TB.1.c0
 have q1 := TB.1.c1
 have qf := TB.1.f
 obtain ⟨w11, hw11⟩ : ∃ w11, (((u11.setCell ⟨w10.heap.size, 0, none⟩ (.slice ga XL gm)).setCell ⟨w10.heap.size, 1, none⟩ (.slice gx XN gt)).setCell ⟨w10.heap.size + 1, 0, none⟩ ((.slice ga' YL gm'))).setCell ⟨w10.heap.size + 1, 1, none⟩ ((.slice gx' YN gt')) = w11 := ⟨_, rfl⟩
 have HB111 : Hid (Bx2 w11 (w10.heap.size) (.slice ga XL gm) (.slice gx XN gt)) := hid (by rw [← hw11]; exact TB.2.1)
 have HB211 : Hid (Bx2 w11 (w10.heap.size + 1) ((.slice ga' YL gm')) ((.slice gx' YN gt'))) := hid (by rw [← hw11]; exact TB.2.2)
 have HBN11 : Hid (Below w10.heap.size w10 w11) := hid (by rw [← hw11]; exact below4 bu11 (Nat.le_refl _) (Nat.le_succ _) _ _ _ _)
 have HSZ11 : Hid (w11.heap.size = w10.heap.size + 2) := hid (by rw [← hw11, ← hu11]; simp [World.setCell])
 clear U1 U2 TB bu11
 have B911 := keepS b10 HBN11.out
 have HG : Hid (GL w6 w11 (.slice (some ⟨g7, 0, none⟩) S.l.length S.l.length, .slice (some ⟨k7, 0, none⟩) S.n S.n) w7.heap.size w6.heap.size w7.heap.size g7 k7 w8.heap.size S p w9.heap.size mid w10.heap.size ga gx gt ga' gx' gt' w10.heap.size (.slice ga XL gm, .slice gx XN gt) (.slice ga' YL gm', .slice gx' YN gt') X Y) := hid
  ⟨keepS HK9.out B911, HX9.out.below B911 HX9.out.lt, HS9.out.below B911, HT9.out.below B911, HPM9.out.lowC B911, ox.below HBN11.out, oy.below HBN11.out, HB111.out, HB211.out⟩
 have HNM : Hid (w6.heap.size ≤ w7.heap.size ∧ w8.heap.size = w7.heap.size + 1 ∧ w8.heap.size < w9.heap.size ∧ w9.heap.size ≤ mid ∧ mid ≤ w10.heap.size ∧ w10.heap.size + 2 ≤ w11.heap.size) := hid (by
  have h1 := HZ8.out; have h2 := HZ9.out; have h3 := ox.hl; have h4 := oy.hl; have h5 := HSZ11.out
  omega)
 have e0 := HG.out.b1.c0
 have e1 := HG.out.b1.c1
 have e2 := (HB16.out.below HG.out.kk HB16.out.lt).c0
 have e3 := (HB16.out.below HG.out.kk HB16.out.lt).c1
 clear ox oy b10 B911 HT9 HPM9 HX9 HS9 HK9 p0 p1 HB111 HB211 HBN11 HSZ11 HZ8 HZ9
 go_wp2_with fail
 try rw [hu11]
 try rw [hw11]
 clear hu11 hw11 r0 r1 rf q0 q1 qf
 refine (HEX.out ga gx sa sx gm gt sm st w11 HG.out.ox.at (HX6.out.below HG.out.kk)).mono ?_
 rintro e w12 ⟨rfl, b12⟩
 have HG12 := hid (HG.out.below b12)
 have f0 := HG12.out.b2.c0
 have f1 := HG12.out.b2.c1
 have f2 := (HB26.out.below HG12.out.kk HB26.out.lt).c0
 have f3 := (HB26.out.below HG12.out.kk HB26.out.lt).c1
 clear b12 HG e0 e1 e2 e3
 go_wp2_with fail
 refine (HEY.out ga' gx' sa' sx' gm' gt' sm' st' w12 HG12.out.oy.at (HY6.out.below HG12.out.kk)).mono ?_
 rintro e w13 ⟨rfl, b13⟩
 have HG13 := hid (HG12.out.below b13)
 clear b13 HG12 f0 f1 f2 f3
 go_wp2_with fail
 have HSE : Hid (∀ w', Below w13.heap.size w13 w' → (w'.cell? ⟨w7.heap.size, 0, none⟩ = some (.slice (some ⟨g7, 0, none⟩) S.l.length S.l.length) ∧ w'.cell? ⟨w7.heap.size, 1, none⟩ = some (.slice (some ⟨k7, 0, none⟩) S.n S.n) ∧ w'.cell? ⟨w.heap.size, 0, none⟩ = some (.slice a S.l.length c) ∧ w'.cell? ⟨w.heap.size, 1, none⟩ = some (.slice x S.n d))) := hid (fun w' b => by
  have X := HG13.out.xb.below b HG13.out.xb.lt
  have A := HBA6.out.below (keepS HG13.out.kk b) HBA6.out.lt
  exact ⟨X.c0, X.c1, A.c0, A.c1⟩)
 refine wp_region_held_drew (S := fun w' => w'.cell? ⟨w7.heap.size, 0, none⟩ = some (.slice (some ⟨g7, 0, none⟩) S.l.length S.l.length) ∧ w'.cell? ⟨w7.heap.size, 1, none⟩ = some (.slice (some ⟨k7, 0, none⟩) S.n S.n) ∧ w'.cell? ⟨w.heap.size, 0, none⟩ = some (.slice a S.l.length c) ∧ w'.cell? ⟨w.heap.size, 1, none⟩ = some (.slice x S.n d)) (by kernel_rfl) (HSE.out _ (Below.refl _ _).drew) (fun hHeld => ?_)
 refine tk 0 73 ?_ (by kernel_rfl) (fun _ _ _ h => h) ?_ hHeld (tk 1 74 ?_ (by kernel_rfl) (fun _ _ _ h => h) ?_ hHeld ?_)
 iterate 2 (rotate_left; focus (intro o ho; simp only [gZa, gZb, gZc, gZd] at ho; subst ho; refine Or.inl ⟨by rfl, ?_⟩; intro w hSw; (try dsimp only at hSw); (try simp only [Act.put, sZa, sZb, sZc]); go_simp; try with_reducible rfl))
 try simp only [Act.put, sZa, sZb, sZc]
 refine call1 (i := 2) (d := some 75) (by kernel_rfl) (by kernel_rfl) ?_
 intro o ho hod K hK; simp only [gZa, gZb, gZc, gZd] at ho; subst ho
 go_simp
 refine (toSt a x c d S _ hm (HSA.out.below (keepS HW6.out (keepS HG13.out.kk (Below.refl _ _).drew)))).mono ?_
 rintro e v1 ⟨vg, vk, rfl, vs, vb⟩
 have vb1 : Below w13.heap.size w13 v1 := ⟨vb.os, vb.tape, vb.output, vb.size, vb.block⟩
 refine hK.out _ _ (HSE.out _ vb1) (fun hHeld => ?_)
 clear hK K
 try simp only [Act.put, sZa, sZb, sZc]
 refine call1 (i := 3) (d := some 76) (by kernel_rfl) (by kernel_rfl) ?_
 intro o ho hod K hK; simp only [gZa, gZb, gZc, gZd] at ho; subst ho
 go_simp
 refine (eqStateC (some ⟨g7, 0, none⟩) (some ⟨vg, 0, none⟩) S.l.length S.l.length S.l (some ⟨k7, 0, none⟩) (some ⟨vk, 0, none⟩) S.n S.n S.n S.R S.F S.T v1 hm.l1 hm.p1 hm.n1 (HG13.out.below vb1).sn.at.lf vs.at.lf (HG13.out.below vb1).sn.at.rn vs.at.rn).mono ?_
 rintro e w14 ⟨rfl, vb2⟩
 have vb3 := keepS vb1 vb2
 refine hK.out _ _ (HSE.out _ vb3) (fun hHeld => ?_)
 clear hK K
 try simp only [Act.put, sZa, sZb, sZc]
 refine tk 4 77 ?_ (by kernel_rfl) (fun _ _ _ h => h) ?_ hHeld ?_
 rotate_left
 ·(intro o ho; simp only [gZa, gZb, gZc, gZd] at ho; subst ho; refine Or.inl ⟨by rfl, ?_⟩; intro w hSw; (try dsimp only at hSw); go_simp; try with_reducible rfl)
 try simp only [Act.put, sZa, sZb, sZc]
 refine wpAnyH_done (by kernel_rfl) ?_ _
 have HG14 := hid (HG13.out.below vb3)
 clear hHeld vb vb1 vb2 vb3 vs HSE HG13
 go_wp2_with fail
 refine (toStrings pa pc p w14 hpl (HSG.out.below (keepS HW6.out HG14.out.kk))).mono ?_
 rintro e w15 ⟨rfl, t15, b15, _, _⟩
 have HG15 := hid (HG14.out.below b15)
 have HE := hid (eqStrings (some ⟨w8.heap.size, 0, none⟩) (some ⟨w14.heap.size, 0, none⟩) p.length p.length p w15 hpl HG15.out.st t15)
 clear t15 b15 HG14
 go_wp2_with fail
 refine HE.out.mono ?_
 rintro e w16 ⟨rfl, b16⟩
 have HG16 := hid (HG15.out.below b16)
 have p0 := HG16.out.xb.c0
 have p1 := HG16.out.xb.c1
 clear b16 HE HG15
 go_wp2_with fail
 obtain ⟨ys16, ho16⟩ := HG16.out.sn.ro
 refine (markStateC w6.heap.size w7.heap.size g7 k7 S.n 1 S.l ys16 w16 (by omega) hm.l1 hm.p1 hm.n1 HG16.out.sn.hl ⟨HG16.out.sn.k1, HG16.out.sn.k2⟩ HG16.out.sn.lm ho16).mono ?_
 rintro e w17 ⟨⟨m17, hm17, rfl⟩, bt17⟩
 obtain ⟨gm17, pm17⟩ := HG16.out.btw bt17 (Nat.le_refl _) (by have := HNM.out; omega) (by have := HNM.out; omega) (Nat.le_refl _)
 have HM17 := hid gm17
 obtain ⟨C17, hC17⟩ := pm17.wr
 have HMS := hid (markStrings w8.heap.size p.length p.length m17 C17 w17 (by omega) hC17)
 clear gm17 pm17 bt17 hC17 ho16 p0 p1 HG16
 go_wp2_with fail
 refine HMS.out.mono ?_
 rintro e w18 ⟨rfl, g18, _, _⟩
 have HM18 := hid (HM17.out.grown g18 (by have := HNM.out; omega) (by have := HNM.out; omega) (Nat.le_refl _))
 obtain ⟨m18, hm18⟩ : ∃ m, m17 + p.length = m := ⟨_, rfl⟩
 rw [hm18]
 have dm : decide ((m18 : Int) < 0) = false := by simp
 have e0 := HM18.out.b1.c0
 have e1 := HM18.out.b1.c1
 have e2 := (HB16.out.below HM18.out.kk HB16.out.lt).c0
 have e3 := (HB16.out.below HM18.out.kk HB16.out.lt).c1
 clear g18 HMS HM17 hm18
 go_wp2_with fail
 refine (HEX.out ga gx sa sx gm gt sm st w18 HM18.out.ox.at (HX6.out.below HM18.out.kk)).mono ?_
 rintro e w19 ⟨rfl, b19⟩
 have HM19 := hid (HM18.out.below b19)
 have f0 := HM19.out.b2.c0
 have f1 := HM19.out.b2.c1
 have f2 := (HB26.out.below HM19.out.kk HB26.out.lt).c0
 have f3 := (HB26.out.below HM19.out.kk HB26.out.lt).c1
 clear b19 HM18 e0 e1 e2 e3
 go_wp2_with fail
 refine (HEY.out ga' gx' sa' sx' gm' gt' sm' st' w19 HM19.out.oy.at (HY6.out.below HM19.out.kk)).mono ?_
 rintro e w20 ⟨rfl, b20⟩
 have HM20 := hid (HM19.out.below b20)
 have e0 := HM20.out.b1.c0
 have e1 := HM20.out.b1.c1
 clear b20 HM19 f0 f1 f2 f3
 go_wp2_with fail
 refine (HMX.out w20 ga gx gm gt w9.heap.size mid HM20.out.ox).mono ?_
 rintro e w21 ⟨rfl, bt21, mk21⟩
 have hn := HNM.out
 have HK21 := hid (bt21.lowJ HM20.out.kk (by omega) HM20.out.kk.size)
 have HOY21 := hid (HM20.out.oy.same bt21.size (fun q a1 a2 => bt21.block q (Nat.lt_of_lt_of_le a2 HM20.out.oy.hl.2) (.inr a1)))
 have HB121 := hid (HM20.out.b1.btw bt21 (.inr (by omega)))
 have HB221 := hid (HM20.out.b2.btw bt21 (.inr (by omega)))
 have HMK21 := hid mk21
 have f0 := HB221.out.c0
 have f1 := HB221.out.c1
 clear bt21 mk21 e0 e1 HM20 hn
 go_wp2_with fail
 refine (HMY.out w21 ga' gx' gm' gt' mid w10.heap.size HOY21.out).mono ?_
 rintro e w22 ⟨rfl, bt22, mk22⟩
 have hn := HNM.out
 have HK22 := hid (bt22.lowJ HK21.out (by omega) HK21.out.size)
 have HB122 := hid (HB121.out.btw bt22 (.inr (by omega)))
 have HB222 := hid (HB221.out.btw bt22 (.inr (by omega)))
 have HMK22 := hid (HMK21.out.move bt22.size (fun q a1 a2 => bt22.block q (by have := HB121.out.lt; omega) (.inl a2)))
 have HMY22 := hid mk22
 have e0 := HB122.out.c0
 have e1 := HB122.out.c1
 have HCH1 := hid (HHX.out w22 ga gx gm gt HMK22.out.at)
 clear bt22 mk22 f0 f1 hn HK21 HOY21 HB121 HB221 HMK21
 go_wp2_with fail
 refine HCH1.out.mono ?_
 rintro e w23 ⟨rfl, b23⟩
 have HK23 := hid (keepS HK22.out b23)
 have HB223 := hid (HB222.out.below b23 HB222.out.lt)
 have HCH2 := hid (HHY.out w23 ga' gx' gm' gt' (HMY22.out.at.below b23))
 have f0 := HB223.out.c0
 have f1 := HB223.out.c1
 have d1 : decide ((M1 : Int) < 0) = false := by simp
 clear b23 e0 e1 HCH1 HK22 HB122 HB222 HMK22
 go_wp2_with fail
 refine HCH2.out.mono ?_
 rintro e w24 ⟨rfl, b24⟩
 have HK24 := hid (keepS HK23.out b24)
 have d2 : decide ((M2 : Int) < 0) = false := by simp
 have d3 : ((M2 : Int) != (M2 : Int)) = false := by simp
 have k0 := (HBA6.out.below HK24.out HBA6.out.lt).c0
 have k1 := (HBA6.out.below HK24.out HBA6.out.lt).c1
 clear b24 f0 f1 HCH2 HK23 HB223 HMY22
 go_wp2_with fail
 refine (toSt a x c d S w24 hm (HSA.out.below (keepS HW6.out HK24.out))).mono ?_
 rintro e w25 ⟨g25, k25, rfl, s25, b25⟩
 have HK25 := hid (keepS HK24.out b25)
 have HS25 := hid s25
 clear s25 b25 k0 k1 HK24
 go_wp2_with fail
 refine (toStrings pa pc p w25 hpl (HSG.out.below (keepS HW6.out HK25.out))).mono ?_
 rintro e w26 ⟨rfl, t26, b26, _, _⟩
 have HK26 := hid (keepS HK25.out b26)
 have HCI := hid (HIM.out (some ⟨g25, 0, none⟩) (some ⟨k25, 0, none⟩) (some ⟨w25.heap.size, 0, none⟩) w26 (HS25.out.below b26).at t26)
 clear t26 b26 HS25 HK25
 go_wp2_with fail
 refine HCI.out.mono ?_
 rintro e w27 ⟨ha, hm', hx, ht, ha', hm2, hx', ht', mid2, rfl, ox, oy, b27⟩
 obtain ⟨u28, hu28⟩ : ∃ u28, (w27.alloc (.cells #[.slice none 0 0, .slice none 0 0] 36)).alloc (.cells #[.slice none 0 0, .slice none 0 0] 36) = u28 := ⟨_, rfl⟩
 have bu28 : Below w27.heap.size w27 u28 := by rw [← hu28]; exact below2 _ _ _
 have U1 : Bx2 u28 (w27.heap.size) (.slice none 0 0) (.slice none 0 0) := by rw [← hu28]; exact (Bx2.made _ _ _ _).allocs _
 have U2 : Bx2 u28 (w27.heap.size + 1) (.slice none 0 0) (.slice none 0 0) := by
  rw [← hu28]
  simpa using Bx2.made (w27.alloc (.cells #[.slice none 0 0, .slice none 0 0] 36)) (.slice none 0 0) (.slice none 0 0) 36
 have TB := twoB U1 U2 (show w27.heap.size ≠ w27.heap.size + 1 by omega) (.slice ha XL hm') (.slice hx XN ht) ((.slice ha' YL hm2)) ((.slice hx' YN ht'))
 have r0 := U1.c0
 have r1 := U1.c1
 have rf := U1.f
 have q0 := TB.1.c0
 have q1 := TB.1.c1
 have qf := TB.1.f
 obtain ⟨w28, hw28⟩ : ∃ w28, (((u28.setCell ⟨w27.heap.size, 0, none⟩ (.slice ha XL hm')).setCell ⟨w27.heap.size, 1, none⟩ (.slice hx XN ht)).setCell ⟨w27.heap.size + 1, 0, none⟩ ((.slice ha' YL hm2))).setCell ⟨w27.heap.size + 1, 1, none⟩ ((.slice hx' YN ht')) = w28 := ⟨_, rfl⟩
 have HB128 : Hid (Bx2 w28 (w27.heap.size) (.slice ha XL hm') (.slice hx XN ht)) := hid (by rw [← hw28]; exact TB.2.1)
 have HB228 : Hid (Bx2 w28 (w27.heap.size + 1) ((.slice ha' YL hm2)) ((.slice hx' YN ht'))) := hid (by rw [← hw28]; exact TB.2.2)
 have HBN28 : Hid (Below w27.heap.size w27 w28) := hid (by rw [← hw28]; exact below4 bu28 (Nat.le_refl _) (Nat.le_succ _) _ _ _ _)
 have HSZ28 : Hid (w28.heap.size = w27.heap.size + 2) := hid (by rw [← hw28, ← hu28]; simp [World.setCell])
 clear U1 U2 TB bu28
 have HK28 := hid (keepS HK26.out (keepS b27 HBN28.out))
 have HOX := hid (ox.below HBN28.out)
 have HOY := hid (oy.below HBN28.out)
 have e0 := HB128.out.c0
 have e1 := HB128.out.c1
 have e2 := (HB16.out.below HK28.out HB16.out.lt).c0
 have e3 := (HB16.out.below HK28.out HB16.out.lt).c1
 clear ox oy b27 HCI HK26
 go_wp2_with fail
 try rw [hu28]
 try rw [hw28]
 clear hu28 hw28 r0 r1 rf q0 q1 qf
 refine (HEX.out ha hx sa sx hm' ht sm st w28 HOX.out.at (HX6.out.below HK28.out)).mono ?_
 rintro e w29 ⟨rfl, b29⟩
 have HK29 := hid (keepS HK28.out b29)
 have f0 := (HB228.out.below b29 HB228.out.lt).c0
 have f1 := (HB228.out.below b29 HB228.out.lt).c1
 have f2 := (HB26.out.below HK29.out HB26.out.lt).c0
 have f3 := (HB26.out.below HK29.out HB26.out.lt).c1
 have HOY29 := hid (HOY.out.below b29)
 clear b29 e0 e1 e2 e3 HK28 HOX
 go_wp2_with fail
 refine (HEY.out ha' hx' sa' sx' hm2 ht' sm' st' w29 HOY29.out.at (HY6.out.below HK29.out)).mono ?_
 rintro e w30 ⟨rfl, b30⟩
 have HB30 := hid (keepS HW6.out (keepS HK29.out b30))
 clear b30 f0 f1 f2 f3
 go_wp2_with fail
 go_ret
 exact ⟨rfl, HB30.out⟩
theorem own : ownKnob Tryz.prog.godebug = none := by kernel_rfl
theorem laidOut : laidOutB Tryz.prog = true := by kernel_rfl
theorem lifted (os : Os) (started : os.Started) (H : Type) (enc : TypeId × Value → H) :
  ReturnsInHanded {} Tryz.checked os 5 .any (Rows.fnExactSetFlagSpec.pre6 enc Tryz.prog Tryz.f5 Rows.fnExactSetFlagRow.domain false) (Rows.fnExactSetFlagSpec.post enc Tryz.prog Tryz.f5 false true false false) := by
 refine returnsInHanded_of_change (C := Tryz.checked) own started (by kernel_rfl) Tryz.func5
  (ChangeSpec.witness6 (enc := enc) (C := Tryz.checked) false ⟨#[], #[.agg #[.slice none 0 0, .slice none 0 0], .int .i64 0, .slice none 0 0, .bool false], []⟩ 8 (by kernel_rfl) (by kernel_rfl) (by kernel_rfl) (by kernel_rfl)) ?_
 intro W base args ds gs before hval0 hW hcnd _
 have hval : ∀ (j : Nat) t v, Tryz.f5.params[j]? = some t → args[j]? = some v → Value.okWide Tryz.prog W .any base t v := hval0
 have hW' := hW
 obtain ⟨p, q, hA0, hV, rfl, hfz, hnd⟩ := hW
 have hA : DataW.TrodAll enc Tryz.prog W 0 (fun _ => true) true Tryz.f5.params.toList args.toList ds p := hA0
 rw [Tryz.params5] at hA hval
 obtain ⟨v0, vs0, d0, ds0, p0, q0, hargs, rfl, rfl, h0, r0⟩ := trodAll_cons hA
 obtain ⟨v1, vs1, d1, ds1, p1, q1, hargs1, rfl, rfl, h1, r1⟩ := trodAll_cons r0
 obtain ⟨v2, vs2, d2, ds2, p2, q2, hargs2, rfl, rfl, h2, r2⟩ := trodAll_cons r1
 obtain ⟨v3, vs3, d3, ds3, p3, q3, hargs3, rfl, rfl, h3, r3⟩ := trodAll_cons r2
 obtain ⟨rfl, rfl, rfl⟩ := trodAll_nil r3
 subst hargs3
 subst hargs2
 subst hargs1
 obtain rfl : args = #[v0, v1, v2, v3] := by cases args; simp_all
 obtain ⟨rfl, rfl⟩ := trodVars_none hV
 have k0 := h0
 have lt0 : ∀ x ∈ p0, x.block < W.heap.size := by obtain ⟨m, hm⟩ := k0; exact DataW.trod_lt m _ _ _ hm
 have k2 := h2
 have lt2 : ∀ x ∈ p2, x.block < W.heap.size := by obtain ⟨m, hm⟩ := k2; exact DataW.trod_lt m _ _ _ hm
 obtain ⟨a0, c0, l0, x0, n0, e0, R0, F0, T0, rfl, hl0, w0, hb0, hi0, hn0, w1, _, _, iT⟩ := openState (hval 0 27 v0 rfl rfl) h0
 obtain ⟨y1, rfl, rfl, rfl, wy1⟩ := open_int Tryz.underlying3 (hval 1 3 v1 rfl rfl) h1
 obtain ⟨pa, p, pc, rfl, w2, hpb⟩ := openPath (hval 2 28 v2 rfl rfl) h2
 obtain ⟨y3, rfl, rfl, rfl⟩ := open_bool Tryz.underlying4 (hval 3 4 v3 rfl rfl) h3
 clear hA0 hval0
 refine (walk a0 x0 pa c0 e0 pc ⟨l0, n0, R0, F0, T0⟩ p y1 y3 W ⟨hl0, hb0, hi0, hn0⟩ iT hpb ⟨w0, w1⟩ w2 wy1).mono fun e W' ⟨he, bel⟩ => ?_
 subst he
 exact ⟨_, rfl, _, _, _, [], _, [], hW', trodAll_mk1 (shut_bool Tryz.underlying4 _), (trodAll_cons_mk (Below.trod laidOut (by kernel_rfl) (of_decide_eq_true (by kernel_rfl)) k0 bel lt0) (trodAll_cons_mk (shut_int Tryz.underlying3 wy1) (trodAll_cons_mk (Below.trod laidOut (by kernel_rfl) (of_decide_eq_true (by kernel_rfl)) k2 bel lt2) (trodAll_cons_mk (shut_bool Tryz.underlying4 _) trodAll_mk0)))), rfl, bel.frame _, fun h => by cases h⟩
theorem over : Rows.fnExactSetFlagRow.holds Tryz.pinned (OpenSpec.ofChange Rows.fnExactSetFlagSpec) :=
 OpenClaim.holds_of_wide 5 Tryz.f5 rfl rfl rfl rfl rfl rfl rfl ⟨rfl, rfl, rfl, rfl, rfl⟩ rfl rfl rfl rfl rfl (by kernel_rfl) Tryz.func5 (by kernel_rfl)
  (of_decide_eq_true (by kernel_rfl)) (by unfold Func.isWrapper; first | (rw [if_pos (by decide +kernel)]; kernel_rfl) | (rw [if_neg (by decide +kernel)]; exact ⟨rfl, rfl⟩))
  (fun os started H enc _ => lifted os started H enc)
end Go.Proofs.YtcbcabhjododoaaGreat.fnExactSetFlag
namespace Go.Proofs.YtcbcabhjododoaaGreat
theorem setFlagHolds : Rows.FnExactSetFlagSaid := fnExactSetFlag.over
#print axioms setFlagHolds
end Go.Proofs.YtcbcabhjododoaaGreat
