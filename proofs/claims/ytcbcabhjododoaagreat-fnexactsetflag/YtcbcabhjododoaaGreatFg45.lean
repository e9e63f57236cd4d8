import Derived.Test.YtcbcabhjododoaaGreatFg44
import Derived.Test.YtcbcabhjododoaaGreatFg15
import Derived.Test.YtcbcabhjododoaaGreatFg16
set_option linter.unusedVariables false
set_option linter.unusedSimpArgs false
set_option maxRecDepth 100000
set_option maxHeartbeats 40000000
namespace Go.Proofs.YtcbcabhjododoaaGreat
open Go.ChangeShapes Go.WideShapes Go.ChangeAt Go.RowKit Go.Deep
theorem cutC {G T : Prop} (h : Hid T → G) (k : T) : G := h k
theorem l3ChangeC (gn : Lf → Prop) (P : List Lf) (a : Option Addr) (c xg xo d gg gc : Nat) (pa : Option Addr) (ppc : Nat) (S : Sx) (w : World) (hs : StOk S.R S.F S.T S.n S.l) (hP : PtO S P) (h1 : LCap w a S.l) (h3 : RSeg w (some ⟨xg, xo, none⟩) S.n S.R S.F S.T) (hgg : gg < w.heap.size) (hgo : ∀ i, i < S.l.length → w.cell? ⟨gg, i, none⟩ = some (.bool (yes (gn (gL S.l i))))) (h2 : LCap w pa P) :
  Calls Tryz.prog 26 #[.agg #[.slice a S.l.length c, .slice (some ⟨xg, xo, none⟩) S.n d], .slice (some ⟨gg, 0, none⟩) S.l.length gc, .slice pa P.length ppc] w fun e w' => ∃ a m x t a' m' x' t', e = .returned (.tuple #[.agg #[.slice a (chX S (dlS gn S.l P)).l.length m, .slice x (chX S (dlS gn S.l P)).n t], .agg #[.slice a' (chY S (dlS gn S.l P)).l.length m', .slice x' (chY S (dlS gn S.l P)).n t'], .int .i64 (chC S (dlS gn S.l P))]) ∧ SNc w' w.heap.size a x (chX S (dlS gn S.l P)) ∧ SNc w' w.heap.size a' x' (chY S (dlS gn S.l P)) ∧ Below w.heap.size w w' := by
 obtain ⟨WA, hWA⟩ : ∃ WA, ((w.alloc (.cells #[.slice a S.l.length c, .slice (some ⟨xg, xo, none⟩) S.n d] 36)).alloc (.cells #[.slice none 0 0, .slice none 0 0] 36)).alloc (.cells #[.slice none 0 0, .slice none 0 0] 36) = WA := ⟨_, rfl⟩
 obtain ⟨W, hW⟩ : ∃ W, (((WA.alloc (.cells #[] 57)).alloc (.cells #[] 94)).alloc (.cells #[.slice (some ⟨WA.heap.size, 0, none⟩) 0 0, .slice (some ⟨WA.heap.size + 1, 0, none⟩) 0 0] 36)).alloc (.cells #[] 57) = W := ⟨_, rfl⟩
 have zA : WA.heap.size = w.heap.size + 1 + 1 + 1 := by rw [← hWA]; simp
 have bA : Below w.heap.size w WA := by rw [← hWA]; exact (below2 _ _ _).alloc (by simp; omega) _
 have al : ∀ (v : World) (o : Obj), Below v.heap.size v (v.alloc o) := fun v o => (Below.refl _ _).alloc (Nat.le_refl _) _
 have bAW : Below WA.heap.size WA W := by rw [← hW]; exact (keepS (keepS (keepS (al _ _) (al _ _)) (al _ _)) (al _ _))
 have b0 : Below w.heap.size w W := keepS bA bAW
 have zW : W.heap.size = w.heap.size + 7 := by rw [← hW]; simp; omega
 have A0 : Bx2 W w.heap.size (.slice a S.l.length c) (.slice (some ⟨xg, xo, none⟩) S.n d) := by
  have : Bx2 WA w.heap.size (.slice a S.l.length c) (.slice (some ⟨xg, xo, none⟩) S.n d) := by rw [← hWA]; exact ((Bx2.made w _ _ _).allocs _).allocs _
  exact this.below bAW this.lt
 have R10 : Bx2 W (w.heap.size + 1) (.slice none 0 0) (.slice none 0 0) := by
  have : Bx2 WA (w.heap.size + 1) (.slice none 0 0) (.slice none 0 0) := by
   rw [← hWA]
   have := Bx2.made (w.alloc (.cells #[.slice a S.l.length c, .slice (some ⟨xg, xo, none⟩) S.n d] 36)) (.slice none 0 0) (.slice none 0 0) 36
   exact (by simpa using this : Bx2 _ (w.heap.size + 1) _ _).allocs _
  exact this.below bAW this.lt
 have R20 : Bx2 W (w.heap.size + 1 + 1) (.slice none 0 0) (.slice none 0 0) := by
  have : Bx2 WA (w.heap.size + 1 + 1) (.slice none 0 0) (.slice none 0 0) := by
   rw [← hWA]
   simpa using Bx2.made ((w.alloc (.cells #[.slice a S.l.length c, .slice (some ⟨xg, xo, none⟩) S.n d] 36)).alloc (.cells #[.slice none 0 0, .slice none 0 0] 36)) (.slice none 0 0) (.slice none 0 0) 36
  exact this.below bAW this.lt
 have LD0 : LC W (w.heap.size + 3) (.slice (some ⟨WA.heap.size, 0, none⟩) 0 0) [] (fun _ => 0) (fun _ => 0) := by
  refine ⟨?_, fun i hi => by simp at hi⟩
  have q := World.ownsRow_lit (base := w.heap.size + 3) (e := 57) (size := 5) WA #[] 0 (by omega) (by unfold maxLen; omega) rfl
  have q3 := ((World.ownsRow.alloc q (.cells #[] 94)).alloc (.cells #[.slice (some ⟨WA.heap.size, 0, none⟩) 0 0, .slice (some ⟨WA.heap.size + 1, 0, none⟩) 0 0] 36)).alloc (.cells #[] 57)
  rw [hW] at q3
  exact q3
 have FD0 : FR W (w.heap.size + 3) (.slice (some ⟨WA.heap.size + 1, 0, none⟩) 0 0) [] := by
  have q := World.ownsRow_lit (base := w.heap.size + 3) (e := 94) (size := 3) (WA.alloc (.cells #[] 57)) #[] 0 (by simp; omega) (by unfold maxLen; omega) rfl
  have zz : (WA.alloc (.cells #[] 57)).heap.size = WA.heap.size + 1 := by simp
  rw [zz] at q
  have q3 := (World.ownsRow.alloc q (.cells #[.slice (some ⟨WA.heap.size, 0, none⟩) 0 0, .slice (some ⟨WA.heap.size + 1, 0, none⟩) 0 0] 36)).alloc (.cells #[] 57)
  rw [hW] at q3
  exact q3
 have D0 : Bx2 W (WA.heap.size + 1 + 1) (.slice (some ⟨WA.heap.size, 0, none⟩) 0 0) (.slice (some ⟨WA.heap.size + 1, 0, none⟩) 0 0) := by
  have q := Bx2.made ((WA.alloc (.cells #[] 57)).alloc (.cells #[] 94)) (.slice (some ⟨WA.heap.size, 0, none⟩) 0 0) (.slice (some ⟨WA.heap.size + 1, 0, none⟩) 0 0) 36
  have zz : ((WA.alloc (.cells #[] 57)).alloc (.cells #[] 94)).heap.size = WA.heap.size + 1 + 1 := by simp
  rw [zz] at q
  have q3 := q.allocs (.cells #[] 57)
  rw [hW] at q3
  exact q3
 have LN0 : LC W (w.heap.size + 3) (.slice (some ⟨WA.heap.size + 1 + 1 + 1, 0, none⟩) 0 0) [] (fun _ => 0) (fun _ => 0) := by
  refine ⟨?_, fun i hi => by simp at hi⟩
  have q := World.ownsRow_lit (base := w.heap.size + 3) (e := 57) (size := 5) (((WA.alloc (.cells #[] 57)).alloc (.cells #[] 94)).alloc (.cells #[.slice (some ⟨WA.heap.size, 0, none⟩) 0 0, .slice (some ⟨WA.heap.size + 1, 0, none⟩) 0 0] 36)) #[] 0 (by simp; omega) (by unfold maxLen; omega) rfl
  have zz : (((WA.alloc (.cells #[] 57)).alloc (.cells #[] 94)).alloc (.cells #[.slice (some ⟨WA.heap.size, 0, none⟩) 0 0, .slice (some ⟨WA.heap.size + 1, 0, none⟩) 0 0] 36)).heap.size = WA.heap.size + 1 + 1 + 1 := by simp
  rw [zz, hW] at q
  exact q
 have hcx := ctxB_iff.1 hs.1
 have HU := hid (specUnion2 xg xo S.n d S.R S.F S.T (some ⟨WA.heap.size + 1, 0, none⟩) 0 0 (fun _ => 0) (fun _ => 0) (fun _ => 0) W hcx.2 (by omega) (h3.below b0) (.inl rfl) hcx.1 (fun i hi => absurd hi (by omega)))
 have HUE : Hid (unL S.R S.F S.T S.n (fun _ => 0) (fun _ => 0) (fun _ => 0) 0 = cNR S P 0) := hid (by unfold unL cNR; simp [flat])
 rw [HUE.out] at HU
 have HGZ : Hid (WA.heap.size = w.heap.size + 3) := hid (by omega)
 have H1 := hid h1
 have H2 := hid h2
 have HS0 := hid hs
 have HPT := hid hP
 have HGO : Hid (∀ wr, Below w.heap.size w wr → ∀ i, i < S.l.length → wr.cell? ⟨gg, i, none⟩ = some (.bool (yes (gn (gL S.l i))))) := hid (fun wr b i hi => (b.cell (p := ⟨gg, i, none⟩) hgg).trans (hgo i hi))
 have HLN : Hid (S.l.length ≤ 1000 ∧ S.n ≤ 1000 ∧ P.length ≤ 1) := hid ⟨hs.2.1, hcx.2, hP.one⟩
 have HA0 := hid A0
 have HR10 := hid R10
 have HR20 := hid R20
 have HD0 := hid D0
 have HLD0 := hid LD0
 have HFD0 := hid FD0
 have HLN0 := hid LN0
 have HB0 := hid b0
 have HZW := hid zW
 obtain ⟨X, hX⟩ : ∃ X, chX S (dlS gn S.l P) = X := ⟨_, rfl⟩
 obtain ⟨Y, hY⟩ : ∃ Y, chY S (dlS gn S.l P) = Y := ⟨_, rfl⟩
 obtain ⟨CC, hC⟩ : ∃ CC, chC S (dlS gn S.l P) = CC := ⟨_, rfl⟩
 have HXYC := hid (And.intro hX (And.intro hY hC))
 rw [hX, hY, hC]
 have k1 := A0.c1
 have k2 := D0.c1
 have HCDR : Hid (∀ j k, FSrt (cDR gn S.l P j k) ∧ (cDR gn S.l P j k).length ≤ 1001) := hid (fun j k => ⟨cDR_ok hs hP j k, by have := cDR_len (g := gn) (l := S.l) (P := P) (j := j) (k := k); have := hs.2.1; have := hP.one; omega⟩)
 have HCNR : Hid (∀ k, FSrt (cNR S P k) ∧ (cNR S P k).length ≤ 1001) := hid (fun k => ⟨cNR_ok hs hP k, by have := cNR_len (P := P) (k := k) (S := S); have := hcx.2; have := hP.one; omega⟩)
 have HCNL : Hid (∀ j k, (cNL gn S.l P j k).length ≤ 1001 ∧ ∀ i, i < (cNL gn S.l P j k).length → 1 ≤ (gL (cNL gn S.l P j k) i).p.length ∧ (gL (cNL gn S.l P j k) i).p.length ≤ 8) := hid (fun j k => ⟨by have := cNL_len (g := gn) (l := S.l) (P := P) (j := j) (k := k); have := hs.2.1; have := hP.one; omega, cNL_pth hs hP j k⟩)
 have HCDL : Hid (∀ k, (cDL P k).length ≤ 1 ∧ ∀ i, i < (cDL P k).length → 1 ≤ (gL (cDL P k) i).p.length ∧ (gL (cDL P k) i).p.length ≤ 8) := hid (fun k => ⟨by have := cDL_len (P := P) (k := k); have := hP.one; omega, cDL_pth hP k⟩)
 clear A0 R10 R20 D0 LD0 FD0 LN0 b0 bA bAW al zA zW h1 h2 h3 hs hP hgo hgg hcx hX hY hC HUE
 go_enter Tryz.func26, Tryz.ntmps26
 go_wp2_with fail
 try rw [hWA]
 try rw [hW]
 clear hW hWA
 refine HU.out.mono ?_
 rintro e w1 ⟨vr, rfl, f1, b1⟩
 obtain ⟨ra, rc, hvr, _⟩ := f1.fs
 subst hvr
 obtain ⟨nu, hnu⟩ : ∃ nu, (cNR S P 0).length = nu := ⟨_, rfl⟩
 rw [hnu] at f1 ⊢
 clear hnu
 obtain ⟨w2, hw2⟩ : ∃ w2, w1.alloc (.cells #[.slice (some ⟨WA.heap.size + 1 + 1 + 1, 0, none⟩) 0 0, .slice ra nu rc] 36) = w2 := ⟨_, rfl⟩
 have b2 : Below w1.heap.size w1 w2 := by rw [← hw2]; exact (Below.refl _ _).alloc (Nat.le_refl _) _
 have b12 := keepS b1 b2
 have HCS0 : Hid (CS w w2 (WA.heap.size + 1 + 1) w1.heap.size (.slice a S.l.length c) (.slice (some ⟨xg, xo, none⟩) S.n d) WA.heap.size 0 [] (fun _ => 0) (fun _ => 0) (.slice (some ⟨WA.heap.size + 1, 0, none⟩) 0 0) (cDR gn S.l P 0 0) (WA.heap.size + 1 + 1 + 1) 0 (cNL gn S.l P 0 0) (fun _ => 0) (fun _ => 0) (.slice ra nu rc) (cNR S P 0)) := hid (by
  have hz := HZW.out
  have hz1 := b1.size
  have hgz := HGZ.out
  have e1 : cDR gn S.l P 0 0 = [] := by unfold cDR goL; simp [unF]
  have e2 : cNL gn S.l P 0 0 = [] := by unfold cNL stL; simp
  rw [e1, e2]
  refine ⟨keepS HB0.out b12, HA0.out.below b12 HA0.out.lt, HR10.out.below b12 HR10.out.lt, HR20.out.below b12 HR20.out.lt, HD0.out.below b12 HD0.out.lt, ?_, HLD0.out.below b12, HLN0.out.below b12, HFD0.out.below b12, (f1.below b2).weak (by omega), by omega, by omega, by omega, ⟨by omega, by omega, by omega⟩, ⟨by omega, by omega⟩, fun b e => ?_, fun b e => ?_, fun i hi => by simp at hi, fun i hi => by simp at hi⟩
  ·rw [← hw2]; exact Bx2.made _ _ _ _
  ·have e : WA.heap.size + 1 = b := by simpa [Value.ownBlock] using e
   exact ⟨by omega, by omega, by omega⟩
  ·have := World.ownsRow.lt f1 b e
   exact ⟨by omega, by omega, by omega⟩)
 clear f1 b1 b2 b12 k1 k2 HU HA0 HR10 HR20 HD0 HLD0 HFD0 HLN0 HB0 HZW
 go_wp2_with fail
 try rw [hw2]
 clear hw2
 obtain ⟨t2, hT2⟩ : ∃ t2, w1.heap.size = t2 := ⟨_, rfl⟩
 rw [hT2] at HCS0 ⊢
 clear hT2
 obtain ⟨t1, ht1⟩ : ∃ t1, WA.heap.size + 1 + 1 = t1 := ⟨_, rfl⟩
 rw [ht1] at HCS0 ⊢
 clear ht1
 obtain ⟨gD, hgD⟩ : ∃ gD, WA.heap.size = gD := ⟨_, rfl⟩
 rw [hgD] at HCS0
 clear hgD
 go_loopw [11] (fun i wr => ∃ (j gN cN : Nat) (NP NQ : Nat → Nat) (vr1 : Value), j ≤ S.l.length ∧ i = .int .i64 j ∧ Hid (CS w wr t1 t2 (.slice a S.l.length c) (.slice (some ⟨xg, xo, none⟩) S.n d) gD 0 [] (fun _ => 0) (fun _ => 0) vr1 (cDR gn S.l P j 0) gN cN (cNL gn S.l P j 0) NP NQ (.slice ra nu rc) (cNR S P 0))) (fun i _ => S.l.length - (intOf i).toNat)
 case atStart => exact ⟨0, _, _, _, _, _, Nat.zero_le _, rfl, HCS0⟩
 case round =>
  clear HCS0
  obtain ⟨j, gN, cN, NP, NQ, vr1, hj, rfl, HS⟩ := hrel
  have hl1 : S.l.length ≤ 1000 := HLN.out.1
  have a0 := HS.out.a.c0
  by_cases hlt : j < S.l.length
  ·have i1 : (0 : Int) ≤ (j : Int) := Int.natCast_nonneg _
   have i2 : (j : Int) < (S.l.length : Int) := by omega
   obtain ⟨ab, ao, rfl, hab, hcs⟩ := (H1.out).resolve_left (by omega)
   obtain ⟨pa1, pc, ⟨c0, d0⟩, sg, c1, c2, c3, c4⟩ := hcs j hlt
   have hyl := ok_pth HS0.out j hlt
   obtain ⟨pb, po, rfl, hpb, hpc⟩ := sg.resolve_left (by omega)
   have HDT : Hid (Rok (dtR (gL S.l j))) := hid (has_rok (ok_okTo HS0.out) (ok_has HS0.out _ (gL_mem.2 ⟨j, hlt, rfl⟩)))
   have HGJ := hid (fun wr b => HGO.out wr b j hlt)
   obtain ⟨y, hy⟩ : ∃ y, gL S.l j = y := ⟨_, rfl⟩
   rw [hy] at c0 c1 c2 c3 c4 d0 hpc hyl HDT HGJ
   have HY := hid hy
   obtain ⟨yp, yf, yr, yq, yv⟩ := y
   dsimp only at c0 c1 c2 c3 c4 d0 hpc hyl HDT HGJ
   have HC5 : Hid (∀ w', Below w.heap.size w w' → (w'.cell? ⟨ab, ao + j * 5, none⟩ = some (.slice (some ⟨pb, po, none⟩) yp.length pc) ∧ w'.cell? ⟨ab, ao + j * 5 + 1, none⟩ = some (.bool yf) ∧ w'.cell? ⟨ab, ao + j * 5 + 2, none⟩ = some (.int .i64 yr) ∧ w'.cell? ⟨ab, ao + j * 5 + 3, none⟩ = some (.int .i64 yq) ∧ w'.cell? ⟨ab, ao + j * 5 + 4, none⟩ = some (.string yv))) := hid (fun w' b => ⟨(b.cell (p := ⟨ab, _, none⟩) hab).trans c0, (b.cell (p := ⟨ab, _, none⟩) hab).trans c1, (b.cell (p := ⟨ab, _, none⟩) hab).trans c2, (b.cell (p := ⟨ab, _, none⟩) hab).trans c3, (b.cell (p := ⟨ab, _, none⟩) hab).trans c4⟩)
   have HSG : Hid (∀ w', Below w.heap.size w w' → pb < w'.heap.size ∧ ∀ t, t < yp.length → w'.cell? ⟨pb, po + t, none⟩ = some (.string (gS yp t))) := hid (fun w' b => ⟨Nat.lt_of_lt_of_le hpb b.size, fun t ht => (b.cell (p := ⟨pb, po + t, none⟩) hpb).trans (hpc t ht)⟩)
   have HYL := hid hyl
   obtain ⟨w5, hw5⟩ : ∃ w5, wr.alloc (.cells #[.int .i64 yr, .int .i64 yq] 55) = w5 := ⟨_, rfl⟩
   have b5 : Below wr.heap.size wr w5 := by rw [← hw5]; exact (Below.refl _ _).alloc (Nat.le_refl _) _
   have X5 : Bx2 w5 wr.heap.size (.int .i64 yr) (.int .i64 yq) := by rw [← hw5]; exact Bx2.made _ _ _ _
   have HS5 := hid (HS.out.below b5)
   have m2 := (HC5.out wr HS.out.low).2.2.1
   have m3 := (HC5.out wr HS.out.low).2.2.2.1
   have m5 := HGJ.out w5 HS5.out.low
   have x0 := X5.c0
   have x1 := X5.c1
   clear hy hcs sg hpc hpb hab b5 X5 d0 hyl HS HGJ c0 c1 c2 c3 c4
   cases hgj : yes (gn ⟨yp, yf, yr, yq, yv⟩) with
   | true =>
    rw [hgj] at m5
    have hgn : gn (gL S.l j) := by rw [HY.out]; exact yes_iff.1 hgj
    have HE1 : Hid (ins (cDR gn S.l P j 0) (yr, yq, yq) = cDR gn S.l P (j + 1) 0) := hid (by rw [cDR_go hlt hgn, HY.out]; rfl)
    have HE2 : Hid (cNL gn S.l P j 0 = cNL gn S.l P (j + 1) 0) := hid (cNL_go hlt hgn).symm
    obtain ⟨fx, fc, hv1, hfs, _, _⟩ := HS5.out.fd.fs
    subst hv1
    have HIN := hid (specIns fx fc (cDR gn S.l P j 0) yr yq yq w5 (by have := (HCDR.out j 0).2; omega) hfs (HCDR.out j 0).1 HDT.out)
    have d1 := HS5.out.d.c1
    obtain ⟨ln, hln⟩ : ∃ ln, (cDR gn S.l P j 0).length = ln := ⟨_, rfl⟩
    rw [hln] at HIN d1
    clear hfs hgn hgj
    go_wp2_with fail
    refine HIN.out.mono ?_
    rintro e w6 ⟨v6, rfl, hf6, b6⟩
    obtain ⟨vy, vm, vc, rfl⟩ := row_form hf6
    have D6 := HS5.out.d.below b6 HS5.out.d.lt
    have o1 := D6.c1
    have of := D6.f
    rw [hln] at o1
    have HS6 := hid (HS5.out.setD1 b6 hf6)
    rw [HE1.out, HE2.out] at HS6
    clear hf6 b6 D6 HIN x0 x1 m2 m3 m5 d1 a0 hw5 hln HS5
    go_wp2_with fail
    go_roundw
    case rel => exact ⟨j + 1, gN, cN, NP, NQ, _, hlt, by go_num, HS6⟩
    case measure => simp [intOf]; omega
   | false =>
    rw [hgj] at m5
    have hgn : ¬ gn (gL S.l j) := by rw [HY.out]; intro h; rw [yes_t h] at hgj; cases hgj
    have HE1 : Hid (cDR gn S.l P j 0 = cDR gn S.l P (j + 1) 0) := hid (cDR_st hlt hgn).symm
    have HE2 : Hid (cNL gn S.l P j 0 ++ [⟨yp, yf, yr, yq, yv⟩] = cNL gn S.l P (j + 1) 0) := hid (by rw [cNL_st hlt hgn, HY.out])
    have HCS : Hid (∀ w', Below w.heap.size w w' → w'.cell? ⟨w.heap.size, 0, none⟩ = some (.slice (some ⟨ab, ao, none⟩) S.l.length c) → (Below w.heap.size w w' ∧ w'.cell? ⟨w.heap.size, 0, none⟩ = some (.slice (some ⟨ab, ao, none⟩) S.l.length c) ∧ w'.cell? ⟨ab, ao + j * 5, none⟩ = some (.slice (some ⟨pb, po, none⟩) yp.length pc) ∧ w'.cell? ⟨ab, ao + j * 5 + 1, none⟩ = some (.bool yf) ∧ w'.cell? ⟨ab, ao + j * 5 + 2, none⟩ = some (.int .i64 yr) ∧ w'.cell? ⟨ab, ao + j * 5 + 3, none⟩ = some (.int .i64 yq) ∧ w'.cell? ⟨ab, ao + j * 5 + 4, none⟩ = some (.string yv))) := hid (fun w' hB h0 => ⟨hB, h0, HC5.out w' hB⟩)
    have HLF : Hid (∀ w', Below w5.heap.size w5 w' → Calls Tryz.prog 49 #[.agg #[.slice (some ⟨pb, po, none⟩) yp.length pc, .bool yf, .int .i64 yr, .int .i64 yq, .string yv]] w' fun e w'' => ∃ q cap, e = .returned (.agg #[.slice (some ⟨q, 0, none⟩) yp.length cap, .bool yf, .int .i64 yr, .int .i64 yq, .string yv]) ∧ Below w'.heap.size w' w'' ∧ w'.heap.size ≤ q ∧ q < w''.heap.size ∧ Wr w'' q 9 yp.length (fun t => .string (gS yp t)) ∧ yp.length ≤ cap ∧ cap ≤ 9223372036854775807) := hid (fun w' b => by
     have hq := HSG.out w' (keepS HS5.out.low b)
     exact l3LeafB pb po yp.length pc ⟨yp, yf, yr, yq, yv⟩ w' rfl (by have := HYL.out.2; omega) hq.1 hq.2)
    have HST : Hid (∀ w7 p pc', Below w5.heap.size w5 w7 → w5.heap.size ≤ p → p < w7.heap.size → Wr w7 p 9 yp.length (fun t => .string (gS yp t)) → yp.length ≤ pc' ∧ pc' ≤ 9223372036854775807 → _) := hid (fun w7 p pc' b7 p1 p2 hw hcap => HS5.out.appN (y := ⟨yp, yf, yr, yq, yv⟩) (p := p) (pc := pc') b7 (by have := (HCNL.out j 0).1; omega) HYL.out.1 (fun i hi => ((HCNL.out j 0).2 i hi).1) p1 p2 hw hcap)
    obtain ⟨ln, hln⟩ : ∃ ln, (cNL gn S.l P j 0).length = ln := ⟨_, rfl⟩
    have HLL := hid hln
    clear hgn hgj HC5 HSG
    go_wp2_with fail
    try rw [hw5]
    clear hw5 x0 x1 m2 m3 m5 a0
    refine wp_region_held_drew (S := fun w' => Below w.heap.size w w' ∧ w'.cell? ⟨w.heap.size, 0, none⟩ = some (.slice (some ⟨ab, ao, none⟩) S.l.length c) ∧ w'.cell? ⟨ab, ao + j * 5, none⟩ = some (.slice (some ⟨pb, po, none⟩) yp.length pc) ∧ w'.cell? ⟨ab, ao + j * 5 + 1, none⟩ = some (.bool yf) ∧ w'.cell? ⟨ab, ao + j * 5 + 2, none⟩ = some (.int .i64 yr) ∧ w'.cell? ⟨ab, ao + j * 5 + 3, none⟩ = some (.int .i64 yq) ∧ w'.cell? ⟨ab, ao + j * 5 + 4, none⟩ = some (.string yv)) (by kernel_rfl) (HCS.out _ HS5.out.low.drew (HS5.out.a.below (Below.refl _ _).drew HS5.out.a.lt).c0) (fun hHeld => ?_)
    refine tk 0 56 ?_ (by kernel_rfl) (fun _ _ _ h => h) ?_ hHeld (tk 2 58 ?_ (by kernel_rfl) (fun _ _ _ h => h) ?_ hHeld (tk 3 59 ?_ (by kernel_rfl) (fun _ _ _ h => h) ?_ hHeld (tk 4 60 ?_ (by kernel_rfl) (fun _ _ _ h => h) ?_ hHeld (tk 5 61 ?_ (by kernel_rfl) (fun _ _ _ h => h) ?_ hHeld ?_))))
    iterate 5 (rotate_left; focus (intro o ho; simp only [gZa, gZb, gZc, gZd] at ho; subst ho; refine Or.inl ⟨by rfl, ?_⟩; intro w hSw; (try dsimp only at hSw); (try simp only [Act.put, sZa, sZb, sZc]); go_simp; try with_reducible rfl))
    try simp only [Act.put, sZa, sZb, sZc]
    refine tk 6 62 ?_ (by kernel_rfl) (fun _ _ _ h => h) ?_ hHeld ?_
    rotate_left
    ·(intro o ho; simp only [gZa, gZb, gZc, gZd] at ho; subst ho; refine Or.inl ⟨by rfl, ?_⟩; intro w hSw; (try dsimp only at hSw); go_simp; try with_reducible rfl)
    try simp only [Act.put, sZa, sZb, sZc]
    refine ready2t (i := 1) (j := 7) (d := some 57) (d' := some 63) (by kernel_rfl) (by kernel_rfl) (by kernel_rfl) ?_ ?_
    ·
     have t0 := (HS5.out.n.below (Below.refl _ _).drew HS5.out.n.lt).c0
     rw [hln] at t0
     intro o ho hod K hK; simp only [gZa, gZb, gZc, gZd] at ho; subst ho
     go_simp
     refine hK.out _ _ (HCS.out _ HS5.out.low.drew (HS5.out.a.below (Below.refl _ _).drew HS5.out.a.lt).c0) (fun hHeld => ?_)
     clear hK K
     try simp only [Act.put, sZa, sZb, sZc]
     clear t0
     refine call1 (i := 7) (d := some 63) (by kernel_rfl) (by kernel_rfl) ?_
     intro o ho hod K hK; simp only [gZa, gZb, gZc, gZd] at ho; subst ho
     go_simp
     refine (HLF.out _ (Below.refl _ _).drew).mono ?_
     rintro e w7 ⟨p7, pc7, rfl, b7, p71, p72, hw7, hc7⟩
     have b7' : Below w5.heap.size w5 w7 := ⟨b7.os, b7.tape, b7.output, b7.size, b7.block⟩
     have L1 := HS5.out.below b7'
     have L2 := L1.below ((Below.refl w7.heap.size w7).alloc (Nat.le_refl _) (.cells #[.slice (some ⟨p7, 0, none⟩) yp.length pc7, .bool yf, .int .i64 yr, .int .i64 yq, .string yv] 57))
     obtain ⟨q8, cap8, w8, happ, l8, A8, O8, P8, Q8, h8⟩ := HST.out w7 p7 pc7 b7' p71 p72 hw7 hc7
     have HI8 := hid h8
     refine hK.out _ _ (HCS.out _ L1.low L1.a.c0) (fun hHeld => ?_)
     clear hK K
     try simp only [Act.put, sZa, sZb, sZc]
     refine call1 (i := 8) (d := some 64) (by kernel_rfl) (by kernel_rfl) ?_
     intro o ho hod K hK; simp only [gZa, gZb, gZc, gZd] at ho; subst ho
     go_simp
     refine hK.out _ _ (HCS.out _ L2.low L2.a.c0) (fun hHeld => ?_)
     clear hK K
     try simp only [Act.put, sZa, sZb, sZc]
     rw [HLL.out] at happ
     refine call1 (i := 9) (d := some 65) (by kernel_rfl) (by kernel_rfl) ?_
     intro o ho hod K hK; simp only [gZa, gZb, gZc, gZd] at ho; subst ho
     refine wp_app2 _ _ _ _ rfl happ (by rfl) (by rfl) rfl ?_
     refine hK.out _ _ (HCS.out _ l8 A8.c0) (fun hHeld => ?_)
     clear hK K
     try simp only [Act.put, sZa, sZb, sZc]
     refine tk 10 66 ?_ (by kernel_rfl) (fun _ _ _ h => h) ?_ hHeld ?_
     rotate_left
     ·(intro o ho; simp only [gZa, gZb, gZc, gZd] at ho; subst ho; refine Or.inl ⟨by rfl, ?_⟩; intro w hSw; (try dsimp only at hSw); go_simp; try with_reducible rfl)
     try simp only [Act.put, sZa, sZb, sZc]
     have t0 := O8.c0
     have tf := O8.f
     rw [HLL.out] at t0
     refine call1 (i := 11) (d := none) (by kernel_rfl) (by kernel_rfl) ?_
     intro o ho hod K hK; simp only [gZa, gZb, gZc, gZd] at ho; subst ho
     go_simp
     have h9 := HI8.out
     rw [HLL.out] at h9
     refine hK.out _ _ (HCS.out _ h9.low h9.a.c0) (fun hHeld => ?_)
     clear hK K
     try simp only [Act.put, sZa, sZb, sZc]
     refine wpAnyH_done (by kernel_rfl) ?_ _
     have HS9 := hid h9
     rw [HE1.out, HE2.out] at HS9
     clear hHeld b7 b7' L1 L2 happ l8 A8 O8 h8 h9 t0 tf hw7 hc7 p71 p72 HST HLF HCS HI8 HS5 hln
     go_wp2_with fail
     go_roundw
     case rel => exact ⟨j + 1, q8, cap8, P8, Q8, vr1, hlt, by go_num, HS9⟩
     case measure => simp [intOf]; omega
    ·
     intro o ho hod K hK; simp only [gZa, gZb, gZc, gZd] at ho; subst ho
     go_simp
     refine (HLF.out _ (Below.refl _ _).drew).mono ?_
     rintro e w7 ⟨p7, pc7, rfl, b7, p71, p72, hw7, hc7⟩
     have b7' : Below w5.heap.size w5 w7 := ⟨b7.os, b7.tape, b7.output, b7.size, b7.block⟩
     have L1 := HS5.out.below b7'
     have L2 := L1.below ((Below.refl w7.heap.size w7).alloc (Nat.le_refl _) (.cells #[.slice (some ⟨p7, 0, none⟩) yp.length pc7, .bool yf, .int .i64 yr, .int .i64 yq, .string yv] 57))
     obtain ⟨q8, cap8, w8, happ, l8, A8, O8, P8, Q8, h8⟩ := HST.out w7 p7 pc7 b7' p71 p72 hw7 hc7
     have HI8 := hid h8
     refine hK.out _ _ (HCS.out _ L1.low L1.a.c0) (fun hHeld => ?_)
     clear hK K
     try simp only [Act.put, sZa, sZb, sZc]
     refine ready2t (i := 1) (j := 8) (d := some 57) (d' := some 64) (by kernel_rfl) (by kernel_rfl) (by kernel_rfl) ?_ ?_
     ·
      have t0 := L1.n.c0
      rw [hln] at t0
      intro o ho hod K hK; simp only [gZa, gZb, gZc, gZd] at ho; subst ho
      go_simp
      refine hK.out _ _ (HCS.out _ L1.low L1.a.c0) (fun hHeld => ?_)
      clear hK K
      try simp only [Act.put, sZa, sZb, sZc]
      clear t0
      refine call1 (i := 8) (d := some 64) (by kernel_rfl) (by kernel_rfl) ?_
      intro o ho hod K hK; simp only [gZa, gZb, gZc, gZd] at ho; subst ho
      go_simp
      refine hK.out _ _ (HCS.out _ L2.low L2.a.c0) (fun hHeld => ?_)
      clear hK K
      try simp only [Act.put, sZa, sZb, sZc]
      rw [HLL.out] at happ
      refine call1 (i := 9) (d := some 65) (by kernel_rfl) (by kernel_rfl) ?_
      intro o ho hod K hK; simp only [gZa, gZb, gZc, gZd] at ho; subst ho
      refine wp_app2 _ _ _ _ rfl happ (by rfl) (by rfl) rfl ?_
      refine hK.out _ _ (HCS.out _ l8 A8.c0) (fun hHeld => ?_)
      clear hK K
      try simp only [Act.put, sZa, sZb, sZc]
      refine tk 10 66 ?_ (by kernel_rfl) (fun _ _ _ h => h) ?_ hHeld ?_
      rotate_left
      ·(intro o ho; simp only [gZa, gZb, gZc, gZd] at ho; subst ho; refine Or.inl ⟨by rfl, ?_⟩; intro w hSw; (try dsimp only at hSw); go_simp; try with_reducible rfl)
      try simp only [Act.put, sZa, sZb, sZc]
      have t0 := O8.c0
      have tf := O8.f
      rw [HLL.out] at t0
      refine call1 (i := 11) (d := none) (by kernel_rfl) (by kernel_rfl) ?_
      intro o ho hod K hK; simp only [gZa, gZb, gZc, gZd] at ho; subst ho
      go_simp
      have h9 := HI8.out
      rw [HLL.out] at h9
      refine hK.out _ _ (HCS.out _ h9.low h9.a.c0) (fun hHeld => ?_)
      clear hK K
      try simp only [Act.put, sZa, sZb, sZc]
      refine wpAnyH_done (by kernel_rfl) ?_ _
      have HS9 := hid h9
      rw [HE1.out, HE2.out] at HS9
      clear hHeld b7 b7' L1 L2 happ l8 A8 O8 h8 h9 t0 tf hw7 hc7 p71 p72 HST HLF HCS HI8 HS5 hln
      go_wp2_with fail
      go_roundw
      case rel => exact ⟨j + 1, q8, cap8, P8, Q8, vr1, hlt, by go_num, HS9⟩
      case measure => simp [intOf]; omega
     ·
      intro o ho hod K hK; simp only [gZa, gZb, gZc, gZd] at ho; subst ho
      go_simp
      refine hK.out _ _ (HCS.out _ L2.low L2.a.c0) (fun hHeld => ?_)
      clear hK K
      try simp only [Act.put, sZa, sZb, sZc]
      have t0 := L2.n.c0
      rw [hln] at t0
      refine call1 (i := 1) (d := some 57) (by kernel_rfl) (by kernel_rfl) ?_
      intro o ho hod K hK; simp only [gZa, gZb, gZc, gZd] at ho; subst ho
      go_simp
      refine hK.out _ _ (HCS.out _ L2.low L2.a.c0) (fun hHeld => ?_)
      clear hK K
      try simp only [Act.put, sZa, sZb, sZc]
      clear t0
      rw [HLL.out] at happ
      refine call1 (i := 9) (d := some 65) (by kernel_rfl) (by kernel_rfl) ?_
      intro o ho hod K hK; simp only [gZa, gZb, gZc, gZd] at ho; subst ho
      refine wp_app2 _ _ _ _ rfl happ (by rfl) (by rfl) rfl ?_
      refine hK.out _ _ (HCS.out _ l8 A8.c0) (fun hHeld => ?_)
      clear hK K
      try simp only [Act.put, sZa, sZb, sZc]
      refine tk 10 66 ?_ (by kernel_rfl) (fun _ _ _ h => h) ?_ hHeld ?_
      rotate_left
      ·(intro o ho; simp only [gZa, gZb, gZc, gZd] at ho; subst ho; refine Or.inl ⟨by rfl, ?_⟩; intro w hSw; (try dsimp only at hSw); go_simp; try with_reducible rfl)
      try simp only [Act.put, sZa, sZb, sZc]
      have t0 := O8.c0
      have tf := O8.f
      rw [HLL.out] at t0
      refine call1 (i := 11) (d := none) (by kernel_rfl) (by kernel_rfl) ?_
      intro o ho hod K hK; simp only [gZa, gZb, gZc, gZd] at ho; subst ho
      go_simp
      have h9 := HI8.out
      rw [HLL.out] at h9
      refine hK.out _ _ (HCS.out _ h9.low h9.a.c0) (fun hHeld => ?_)
      clear hK K
      try simp only [Act.put, sZa, sZb, sZc]
      refine wpAnyH_done (by kernel_rfl) ?_ _
      have HS9 := hid h9
      rw [HE1.out, HE2.out] at HS9
      clear hHeld b7 b7' L1 L2 happ l8 A8 O8 h8 h9 t0 tf hw7 hc7 p71 p72 HST HLF HCS HI8 HS5 hln
      go_wp2_with fail
      go_roundw
      case rel => exact ⟨j + 1, q8, cap8, P8, Q8, vr1, hlt, by go_num, HS9⟩
      case measure => simp [intOf]; omega
  ·obtain rfl : j = S.l.length := by omega
   go_wp2_with fail
   go_loopw [13] (fun i wr => ∃ (k gD cD gN cN : Nat) (DP DQ NP NQ : Nat → Nat) (vr1 vr2 : Value), k ≤ P.length ∧ i = .int .i64 k ∧ Hid (CS w wr t1 t2 (.slice a S.l.length c) (.slice (some ⟨xg, xo, none⟩) S.n d) gD cD (cDL P k) DP DQ vr1 (cDR gn S.l P S.l.length k) gN cN (cNL gn S.l P S.l.length k) NP NQ vr2 (cNR S P k))) (fun i _ => P.length - (intOf i).toNat)
   case atStart => exact ⟨0, _, _, _, _, _, _, _, _, _, _, Nat.zero_le _, rfl, HS⟩
   case round =>
    clear HS a0
    obtain ⟨k, gD, cD, gN, cN, DP, DQ, NP, NQ, vr1, vr2, hk, rfl, HS⟩ := hrel
    have hp1 : P.length ≤ 1 := HLN.out.2.2
    by_cases hltk : k < P.length
    ·skip
     have i1 : (0 : Int) ≤ (k : Int) := Int.natCast_nonneg _
     have i2 : (k : Int) < (P.length : Int) := by omega
     obtain ⟨qb, qo, rfl, hqb, hcs⟩ := (H2.out).resolve_left (by omega)
     obtain ⟨pa1, pc, ⟨c0, d0⟩, sg, c1, c2, c3, c4⟩ := hcs k hltk
     have hmem : gL P k ∈ P := gL_mem.2 ⟨k, hltk, rfl⟩
     have hyl := HPT.out.pm _ hmem
     obtain ⟨pb, po, rfl, hpb, hpc⟩ := sg.resolve_left (by omega)
     have HDT : Hid (Rok (dtR (gL P k))) := hid (HPT.out.dot _ hmem)
     have HE1 : Hid (ins (cDR gn S.l P S.l.length k) (dtR (gL P k)) = cDR gn S.l P S.l.length (k + 1)) := hid (cDR_put hltk).symm
     have HE2 : Hid (ins (cNR S P k) (dtR (gL P k)) = cNR S P (k + 1)) := hid (cNR_put hltk).symm
     have HE3 : Hid (insL (gL P k) (cDL P k) = cDL P (k + 1)) := hid (cDL_put hltk).symm
     have HE4 : Hid (insL (gL P k) (cNL gn S.l P S.l.length k) = cNL gn S.l P S.l.length (k + 1)) := hid (cNL_put hltk).symm
     obtain ⟨y, hy⟩ : ∃ y, gL P k = y := ⟨_, rfl⟩
     rw [hy] at c0 c1 c2 c3 c4 d0 hpc hyl HDT HE1 HE2 HE3 HE4
     obtain ⟨yp, yf, yr, yq, yv⟩ := y
     dsimp only [dtR] at c0 c1 c2 c3 c4 d0 hpc hyl HDT HE1 HE2 HE3 HE4
     have HC5 : Hid (∀ w', Below w.heap.size w w' → (w'.cell? ⟨qb, qo + k * 5, none⟩ = some (.slice (some ⟨pb, po, none⟩) yp.length pc) ∧ w'.cell? ⟨qb, qo + k * 5 + 1, none⟩ = some (.bool yf) ∧ w'.cell? ⟨qb, qo + k * 5 + 2, none⟩ = some (.int .i64 yr) ∧ w'.cell? ⟨qb, qo + k * 5 + 3, none⟩ = some (.int .i64 yq) ∧ w'.cell? ⟨qb, qo + k * 5 + 4, none⟩ = some (.string yv))) := hid (fun w' b => ⟨(b.cell (p := ⟨qb, _, none⟩) hqb).trans c0, (b.cell (p := ⟨qb, _, none⟩) hqb).trans c1, (b.cell (p := ⟨qb, _, none⟩) hqb).trans c2, (b.cell (p := ⟨qb, _, none⟩) hqb).trans c3, (b.cell (p := ⟨qb, _, none⟩) hqb).trans c4⟩)
     have HSG : Hid (∀ w', Below w.heap.size w w' → pb < w'.heap.size ∧ ∀ t, t < yp.length → w'.cell? ⟨pb, po + t, none⟩ = some (.string (gS yp t))) := hid (fun w' b => ⟨Nat.lt_of_lt_of_le hpb b.size, fun t ht => (b.cell (p := ⟨pb, po + t, none⟩) hpb).trans (hpc t ht)⟩)
     have HYL := hid hyl
     obtain ⟨w5, hw5⟩ : ∃ w5, wr.alloc (.cells #[.int .i64 yr, .int .i64 yq] 55) = w5 := ⟨_, rfl⟩
     have b5 : Below wr.heap.size wr w5 := by rw [← hw5]; exact (Below.refl _ _).alloc (Nat.le_refl _) _
     have X5 : Bx2 w5 wr.heap.size (.int .i64 yr) (.int .i64 yq) := by rw [← hw5]; exact Bx2.made _ _ _ _
     have HS5 := hid (HS.out.below b5)
     have HX5 := hid X5
     have HNE : Hid (t1 ≠ wr.heap.size ∧ t2 ≠ wr.heap.size) := hid ⟨by have := HS.out.d.lt; omega, by have := HS.out.n.lt; omega⟩
     have m2 := (HC5.out wr HS.out.low).2.2.1
     have m3 := (HC5.out wr HS.out.low).2.2.2.1
     have x0 := X5.c0
     have x1 := X5.c1
     clear hy hcs sg hpc hpb hqb b5 X5 d0 hyl HS c0 c1 c2 c3 c4 hmem
     obtain ⟨fx1, fc1, hv1, hfs1, _, _⟩ := HS5.out.fd.fs
     subst hv1
     have HIN1 := hid (specIns fx1 fc1 (cDR gn S.l P S.l.length k) yr yq yq w5 (by have := (HCDR.out S.l.length k).2; omega) hfs1 (HCDR.out S.l.length k).1 HDT.out)
     have d1 := HS5.out.d.c1
     obtain ⟨ln1, hln1⟩ : ∃ ln, ((cDR gn S.l P S.l.length k)).length = ln := ⟨_, rfl⟩
     rw [hln1] at HIN1 d1
     clear hfs1
     go_wp2_with fail
     refine HIN1.out.mono ?_
     rintro e w6 ⟨v6, rfl, hf6, b6⟩
     obtain ⟨vy, vm, vc, rfl⟩ := row_form hf6
     have D6 := HS5.out.d.below b6 HS5.out.d.lt
     have o1 := D6.c1
     have of := D6.f
     rw [hln1] at o1
     have HS6 := hid (HS5.out.setD1 b6 hf6)
     rw [HE1.out] at HS6
     have X6 := (HX5.out.below b6 HX5.out.lt).setAt ⟨t1, 1, none⟩ (.slice vy vm vc) HNE.out.1
     obtain ⟨wb, hwb⟩ : ∃ wb, w6.setCell ⟨t1, 1, none⟩ (.slice vy vm vc) = wb := ⟨_, rfl⟩
     rw [hwb] at HS6 X6
     have HX6 := hid X6
     clear x0 x1 m2 m3 d1 hw5 hf6 b6 D6 HIN1 hln1 HS5 HX5
     have x0 := X6.c0
     have x1 := X6.c1
     clear X6
     obtain ⟨fx2, fc2, hv2, hfs2, _, _⟩ := HS6.out.fn.fs
     subst hv2
     have HIN2 := hid (specIns fx2 fc2 (cNR S P k) yr yq yq wb (by have := (HCNR.out k).2; omega) hfs2 (HCNR.out k).1 HDT.out)
     have d2 := HS6.out.n.c1
     obtain ⟨ln2, hln2⟩ : ∃ ln, ((cNR S P k)).length = ln := ⟨_, rfl⟩
     rw [hln2] at HIN2 d2
     clear hfs2
     go_wp2_with fail
     clear o1 of
     refine HIN2.out.mono ?_
     rintro e w6b ⟨v7, rfl, hf7, b7⟩
     obtain ⟨uy, um, uc, rfl⟩ := row_form hf7
     have D7 := HS6.out.n.below b7 HS6.out.n.lt
     have o1 := D7.c1
     have of := D7.f
     rw [hln2] at o1
     have HS7 := hid (HS6.out.setN1 b7 hf7)
     rw [HE2.out] at HS7
     obtain ⟨wc, hwc⟩ : ∃ wc, w6b.setCell ⟨t2, 1, none⟩ (.slice uy um uc) = wc := ⟨_, rfl⟩
     rw [hwc] at HS7
     clear hwb x0 x1 d2 hf7 b7 D7 HIN2 hln2 HS6 HX6
     have HSE3 : Hid (∀ w', Below w.heap.size w w' → (Below w.heap.size w w' ∧ w'.cell? ⟨qb, qo + k * 5, none⟩ = some (.slice (some ⟨pb, po, none⟩) yp.length pc) ∧ w'.cell? ⟨qb, qo + k * 5 + 1, none⟩ = some (.bool yf) ∧ w'.cell? ⟨qb, qo + k * 5 + 2, none⟩ = some (.int .i64 yr) ∧ w'.cell? ⟨qb, qo + k * 5 + 3, none⟩ = some (.int .i64 yq) ∧ w'.cell? ⟨qb, qo + k * 5 + 4, none⟩ = some (.string yv))) := hid (fun w' b => ⟨b, HC5.out w' b⟩)
     have HLF3 : Hid (∀ w', Below wc.heap.size wc w' → Calls Tryz.prog 49 #[.agg #[.slice (some ⟨pb, po, none⟩) yp.length pc, .bool yf, .int .i64 yr, .int .i64 yq, .string yv]] w' fun e w'' => ∃ q cap, e = .returned (.agg #[.slice (some ⟨q, 0, none⟩) yp.length cap, .bool yf, .int .i64 yr, .int .i64 yq, .string yv]) ∧ Below w'.heap.size w' w'' ∧ w'.heap.size ≤ q ∧ q < w''.heap.size ∧ Wr w'' q 9 yp.length (fun t => .string (gS yp t)) ∧ yp.length ≤ cap ∧ cap ≤ 9223372036854775807) := hid (fun w' b => by
      have hq := HSG.out w' (keepS HS7.out.low b)
      exact l3LeafB pb po yp.length pc ⟨yp, yf, yr, yq, yv⟩ w' rfl (by have := HYL.out.2; omega) hq.1 hq.2)
     obtain ⟨lp3, hlp3⟩ : ∃ ln, (cDL P k).length = ln := ⟨_, rfl⟩
     have HPU3 : Hid (∀ w7 q cap, Below wc.heap.size wc w7 → wc.heap.size ≤ q → q < w7.heap.size → Wr w7 q 9 yp.length (fun t => .string (gS yp t)) → (yp.length ≤ cap ∧ cap ≤ 9223372036854775807) → Calls Tryz.prog 50 #[.slice (some ⟨gD, 0, none⟩) lp3 cD, .agg #[.slice (some ⟨q, 0, none⟩) yp.length cap, .bool yf, .int .i64 yr, .int .i64 yq, .string yv]] w7 fun e w' => (∃ g' cap' P' Q', e = .returned (.slice (some ⟨g', 0, none⟩) (lp3 + 1) cap') ∧ w7.heap.size ≤ g' ∧ LC w' (w.heap.size + 3) (.slice (some ⟨g', 0, none⟩) (lp3 + 1) cap') (cDL P (k + 1)) P' Q') ∧ Below w7.heap.size w7 w') := hid (fun w7 q cap b7 hq1 hq2 hw hcap => by
      have hJ := HS7.out.below b7
      have hs3 := HS7.out.r2.lt
      have hsz := b7.size
      rw [← HE3.out, ← hlp3]
      exact l3PutC gD cD (cDL P k) DP DQ w7 (w.heap.size + 3) q cap yp yf yr yq yv hJ.ld (by omega) (by have := (HCDL.out k).1; omega) (fun i hi => by have := ((HCDL.out k).2 i hi).2; omega) (by have := HYL.out.2; omega) ⟨by omega, hq2⟩ hw hcap)
     have HNL3 : Hid (lp3 + 1 = (cDL P (k + 1)).length) := hid (by rw [← HE3.out, insL_len, hlp3])
     go_wp2_with fail
     try rw [hwc]
     clear hwc o1 of
     apply cutC
     ·intro key
      refine wp_region_held_drew (S := fun w' => Below w.heap.size w w' ∧ w'.cell? ⟨qb, qo + k * 5, none⟩ = some (.slice (some ⟨pb, po, none⟩) yp.length pc) ∧ w'.cell? ⟨qb, qo + k * 5 + 1, none⟩ = some (.bool yf) ∧ w'.cell? ⟨qb, qo + k * 5 + 2, none⟩ = some (.int .i64 yr) ∧ w'.cell? ⟨qb, qo + k * 5 + 3, none⟩ = some (.int .i64 yq) ∧ w'.cell? ⟨qb, qo + k * 5 + 4, none⟩ = some (.string yv)) (by kernel_rfl) (HSE3.out _ HS7.out.low.drew) (fun hHeld => ?_)
      refine tk 0 104 ?_ (by kernel_rfl) (fun _ _ _ h => h) ?_ hHeld (tk 2 106 ?_ (by kernel_rfl) (fun _ _ _ h => h) ?_ hHeld (tk 3 107 ?_ (by kernel_rfl) (fun _ _ _ h => h) ?_ hHeld (tk 4 108 ?_ (by kernel_rfl) (fun _ _ _ h => h) ?_ hHeld (tk 5 109 ?_ (by kernel_rfl) (fun _ _ _ h => h) ?_ hHeld ?_))))
      iterate 5 (rotate_left; focus (intro o ho; simp only [gZa, gZb, gZc, gZd] at ho; subst ho; refine Or.inl ⟨by rfl, ?_⟩; intro w hSw; (try dsimp only at hSw); (try simp only [Act.put, sZa, sZb, sZc]); go_simp; try with_reducible rfl))
      try simp only [Act.put, sZa, sZb, sZc]
      refine ready2t (i := 1) (j := 6) (d := some 105) (d' := some 110) (by kernel_rfl) (by kernel_rfl) (by kernel_rfl) ?_ ?_
      ·
       have t0 := (HS7.out.d.below (Below.refl _ _).drew HS7.out.d.lt).c0
       rw [hlp3] at t0
       intro o ho hod K hK; simp only [gZa, gZb, gZc, gZd] at ho; subst ho
       go_simp
       refine hK.out _ _ (HSE3.out _ HS7.out.low.drew) (fun hHeld => ?_)
       clear hK K
       try simp only [Act.put, sZa, sZb, sZc]
       clear t0
       refine call1 (i := 6) (d := some 110) (by kernel_rfl) (by kernel_rfl) ?_
       intro o ho hod K hK; simp only [gZa, gZb, gZc, gZd] at ho; subst ho
       go_simp
       refine (HLF3.out _ (Below.refl _ _).drew).mono ?_
       rintro e w7 ⟨q7, cap7, rfl, b7, hq71, hq72, hw7, hcap7⟩
       have b7' : Below wc.heap.size wc w7 := ⟨b7.os, b7.tape, b7.output, b7.size, b7.block⟩
       refine hK.out _ _ (HSE3.out _ (keepS HS7.out.low b7')) (fun hHeld => ?_)
       clear hK K
       try simp only [Act.put, sZa, sZb, sZc]
       have HCP := hid (HPU3.out w7 q7 cap7 b7' hq71 hq72 hw7 hcap7)
       clear hw7 hcap7 hq71 hq72
       refine call1 (i := 7) (d := some 111) (by kernel_rfl) (by kernel_rfl) ?_
       intro o ho hod K hK; simp only [gZa, gZb, gZc, gZd] at ho; subst ho
       go_simp
       refine HCP.out.mono ?_
       rintro e w8 ⟨⟨g8, c8, P8, Q8, rfl, hg8, l8⟩, b8⟩
       have b8' := keepS b7' b8
       have HJ8 := hid (HS7.out.setD0 b8' l8 HNL3.out (by have := b7'.size; omega) (fun i hi => ((HCDL.out (k + 1)).2 i hi).1))
       have O8 := HS7.out.d.below b8' HS7.out.d.lt
       refine hK.out _ _ (HSE3.out _ (keepS HS7.out.low b8')) (fun hHeld => ?_)
       clear hK K
       try simp only [Act.put, sZa, sZb, sZc]
       refine tk 8 112 ?_ (by kernel_rfl) (fun _ _ _ h => h) ?_ hHeld ?_
       rotate_left
       ·(intro o ho; simp only [gZa, gZb, gZc, gZd] at ho; subst ho; refine Or.inl ⟨by rfl, ?_⟩; intro w hSw; (try dsimp only at hSw); go_simp; try with_reducible rfl)
       try simp only [Act.put, sZa, sZb, sZc]
       have o0 := O8.c0
       have of := O8.f 0
       rw [hlp3] at o0
       clear O8
       refine call1 (i := 9) (d := none) (by kernel_rfl) (by kernel_rfl) ?_
       intro o ho hod K hK; simp only [gZa, gZb, gZc, gZd] at ho; subst ho
       go_simp
       clear hHeld
       refine hK.out _ _ (HSE3.out _ HJ8.out.low) (fun hHeld => ?_)
       clear hK K
       try simp only [Act.put, sZa, sZb, sZc]
       refine wpAnyH_done (by kernel_rfl) ?_ _
       obtain ⟨wz, hwz⟩ : ∃ wz, w8.setCell ⟨t1, 0, none⟩ (.slice (some ⟨g8, 0, none⟩) (lp3 + 1) c8) = wz := ⟨_, rfl⟩
       rw [hwz] at HJ8 ⊢
       clear hHeld hwz b7 b7' b8 b8' l8 hg8 o0 of HCP
       revert HJ8
       revert wz
       revert Q8
       revert P8
       revert c8
       revert g8
       revert cap7
       revert q7
       exact key.out
      ·
       intro o ho hod K hK; simp only [gZa, gZb, gZc, gZd] at ho; subst ho
       go_simp
       refine (HLF3.out _ (Below.refl _ _).drew).mono ?_
       rintro e w7 ⟨q7, cap7, rfl, b7, hq71, hq72, hw7, hcap7⟩
       have b7' : Below wc.heap.size wc w7 := ⟨b7.os, b7.tape, b7.output, b7.size, b7.block⟩
       refine hK.out _ _ (HSE3.out _ (keepS HS7.out.low b7')) (fun hHeld => ?_)
       clear hK K
       try simp only [Act.put, sZa, sZb, sZc]
       have t0 := (HS7.out.d.below b7' HS7.out.d.lt).c0
       rw [hlp3] at t0
       refine call1 (i := 1) (d := some 105) (by kernel_rfl) (by kernel_rfl) ?_
       intro o ho hod K hK; simp only [gZa, gZb, gZc, gZd] at ho; subst ho
       go_simp
       refine hK.out _ _ (HSE3.out _ (keepS HS7.out.low b7')) (fun hHeld => ?_)
       clear hK K
       try simp only [Act.put, sZa, sZb, sZc]
       clear t0
       have HCP := hid (HPU3.out w7 q7 cap7 b7' hq71 hq72 hw7 hcap7)
       clear hw7 hcap7 hq71 hq72
       refine call1 (i := 7) (d := some 111) (by kernel_rfl) (by kernel_rfl) ?_
       intro o ho hod K hK; simp only [gZa, gZb, gZc, gZd] at ho; subst ho
       go_simp
       refine HCP.out.mono ?_
       rintro e w8 ⟨⟨g8, c8, P8, Q8, rfl, hg8, l8⟩, b8⟩
       have b8' := keepS b7' b8
       have HJ8 := hid (HS7.out.setD0 b8' l8 HNL3.out (by have := b7'.size; omega) (fun i hi => ((HCDL.out (k + 1)).2 i hi).1))
       have O8 := HS7.out.d.below b8' HS7.out.d.lt
       refine hK.out _ _ (HSE3.out _ (keepS HS7.out.low b8')) (fun hHeld => ?_)
       clear hK K
       try simp only [Act.put, sZa, sZb, sZc]
       refine tk 8 112 ?_ (by kernel_rfl) (fun _ _ _ h => h) ?_ hHeld ?_
       rotate_left
       ·(intro o ho; simp only [gZa, gZb, gZc, gZd] at ho; subst ho; refine Or.inl ⟨by rfl, ?_⟩; intro w hSw; (try dsimp only at hSw); go_simp; try with_reducible rfl)
       try simp only [Act.put, sZa, sZb, sZc]
       have o0 := O8.c0
       have of := O8.f 0
       rw [hlp3] at o0
       clear O8
       refine call1 (i := 9) (d := none) (by kernel_rfl) (by kernel_rfl) ?_
       intro o ho hod K hK; simp only [gZa, gZb, gZc, gZd] at ho; subst ho
       go_simp
       clear hHeld
       refine hK.out _ _ (HSE3.out _ HJ8.out.low) (fun hHeld => ?_)
       clear hK K
       try simp only [Act.put, sZa, sZb, sZc]
       refine wpAnyH_done (by kernel_rfl) ?_ _
       obtain ⟨wz, hwz⟩ : ∃ wz, w8.setCell ⟨t1, 0, none⟩ (.slice (some ⟨g8, 0, none⟩) (lp3 + 1) c8) = wz := ⟨_, rfl⟩
       rw [hwz] at HJ8 ⊢
       exact key.out q7 cap7 g8 c8 P8 Q8 wz HJ8
     intro q3 cap3 g3 c3 P3 Q3 wd HS8
     clear HS7 HSE3 HLF3 HPU3 hlp3 HNL3
     have HSE4 : Hid (∀ w', Below w.heap.size w w' → (Below w.heap.size w w' ∧ w'.cell? ⟨qb, qo + k * 5, none⟩ = some (.slice (some ⟨pb, po, none⟩) yp.length pc) ∧ w'.cell? ⟨qb, qo + k * 5 + 1, none⟩ = some (.bool yf) ∧ w'.cell? ⟨qb, qo + k * 5 + 2, none⟩ = some (.int .i64 yr) ∧ w'.cell? ⟨qb, qo + k * 5 + 3, none⟩ = some (.int .i64 yq) ∧ w'.cell? ⟨qb, qo + k * 5 + 4, none⟩ = some (.string yv))) := hid (fun w' b => ⟨b, HC5.out w' b⟩)
     have HLF4 : Hid (∀ w', Below wd.heap.size wd w' → Calls Tryz.prog 49 #[.agg #[.slice (some ⟨pb, po, none⟩) yp.length pc, .bool yf, .int .i64 yr, .int .i64 yq, .string yv]] w' fun e w'' => ∃ q cap, e = .returned (.agg #[.slice (some ⟨q, 0, none⟩) yp.length cap, .bool yf, .int .i64 yr, .int .i64 yq, .string yv]) ∧ Below w'.heap.size w' w'' ∧ w'.heap.size ≤ q ∧ q < w''.heap.size ∧ Wr w'' q 9 yp.length (fun t => .string (gS yp t)) ∧ yp.length ≤ cap ∧ cap ≤ 9223372036854775807) := hid (fun w' b => by
      have hq := HSG.out w' (keepS HS8.out.low b)
      exact l3LeafB pb po yp.length pc ⟨yp, yf, yr, yq, yv⟩ w' rfl (by have := HYL.out.2; omega) hq.1 hq.2)
     obtain ⟨lp4, hlp4⟩ : ∃ ln, (cNL gn S.l P S.l.length k).length = ln := ⟨_, rfl⟩
     have HPU4 : Hid (∀ w7 q cap, Below wd.heap.size wd w7 → wd.heap.size ≤ q → q < w7.heap.size → Wr w7 q 9 yp.length (fun t => .string (gS yp t)) → (yp.length ≤ cap ∧ cap ≤ 9223372036854775807) → Calls Tryz.prog 50 #[.slice (some ⟨gN, 0, none⟩) lp4 cN, .agg #[.slice (some ⟨q, 0, none⟩) yp.length cap, .bool yf, .int .i64 yr, .int .i64 yq, .string yv]] w7 fun e w' => (∃ g' cap' P' Q', e = .returned (.slice (some ⟨g', 0, none⟩) (lp4 + 1) cap') ∧ w7.heap.size ≤ g' ∧ LC w' (w.heap.size + 3) (.slice (some ⟨g', 0, none⟩) (lp4 + 1) cap') (cNL gn S.l P S.l.length (k + 1)) P' Q') ∧ Below w7.heap.size w7 w') := hid (fun w7 q cap b7 hq1 hq2 hw hcap => by
      have hJ := HS8.out.below b7
      have hs3 := HS8.out.r2.lt
      have hsz := b7.size
      rw [← HE4.out, ← hlp4]
      exact l3PutC gN cN (cNL gn S.l P S.l.length k) NP NQ w7 (w.heap.size + 3) q cap yp yf yr yq yv hJ.ln (by omega) (by have := (HCNL.out S.l.length k).1; omega) (fun i hi => by have := ((HCNL.out S.l.length k).2 i hi).2; omega) (by have := HYL.out.2; omega) ⟨by omega, hq2⟩ hw hcap)
     have HNL4 : Hid (lp4 + 1 = (cNL gn S.l P S.l.length (k + 1)).length) := hid (by rw [← HE4.out, insL_len, hlp4])
     go_wp2_with fail
     refine wp_region_held_drew (S := fun w' => Below w.heap.size w w' ∧ w'.cell? ⟨qb, qo + k * 5, none⟩ = some (.slice (some ⟨pb, po, none⟩) yp.length pc) ∧ w'.cell? ⟨qb, qo + k * 5 + 1, none⟩ = some (.bool yf) ∧ w'.cell? ⟨qb, qo + k * 5 + 2, none⟩ = some (.int .i64 yr) ∧ w'.cell? ⟨qb, qo + k * 5 + 3, none⟩ = some (.int .i64 yq) ∧ w'.cell? ⟨qb, qo + k * 5 + 4, none⟩ = some (.string yv)) (by kernel_rfl) (HSE4.out _ HS8.out.low.drew) (fun hHeld => ?_)
     refine tk 0 113 ?_ (by kernel_rfl) (fun _ _ _ h => h) ?_ hHeld (tk 2 115 ?_ (by kernel_rfl) (fun _ _ _ h => h) ?_ hHeld (tk 3 116 ?_ (by kernel_rfl) (fun _ _ _ h => h) ?_ hHeld (tk 4 117 ?_ (by kernel_rfl) (fun _ _ _ h => h) ?_ hHeld (tk 5 118 ?_ (by kernel_rfl) (fun _ _ _ h => h) ?_ hHeld ?_))))
     iterate 5 (rotate_left; focus (intro o ho; simp only [gZa, gZb, gZc, gZd] at ho; subst ho; refine Or.inl ⟨by rfl, ?_⟩; intro w hSw; (try dsimp only at hSw); (try simp only [Act.put, sZa, sZb, sZc]); go_simp; try with_reducible rfl))
     try simp only [Act.put, sZa, sZb, sZc]
     refine ready2t (i := 1) (j := 6) (d := some 114) (d' := some 119) (by kernel_rfl) (by kernel_rfl) (by kernel_rfl) ?_ ?_
     ·
      have t0 := (HS8.out.n.below (Below.refl _ _).drew HS8.out.n.lt).c0
      rw [hlp4] at t0
      intro o ho hod K hK; simp only [gZa, gZb, gZc, gZd] at ho; subst ho
      go_simp
      refine hK.out _ _ (HSE4.out _ HS8.out.low.drew) (fun hHeld => ?_)
      clear hK K
      try simp only [Act.put, sZa, sZb, sZc]
      clear t0
      refine call1 (i := 6) (d := some 119) (by kernel_rfl) (by kernel_rfl) ?_
      intro o ho hod K hK; simp only [gZa, gZb, gZc, gZd] at ho; subst ho
      go_simp
      refine (HLF4.out _ (Below.refl _ _).drew).mono ?_
      rintro e w7 ⟨q7, cap7, rfl, b7, hq71, hq72, hw7, hcap7⟩
      have b7' : Below wd.heap.size wd w7 := ⟨b7.os, b7.tape, b7.output, b7.size, b7.block⟩
      refine hK.out _ _ (HSE4.out _ (keepS HS8.out.low b7')) (fun hHeld => ?_)
      clear hK K
      try simp only [Act.put, sZa, sZb, sZc]
      have HCP := hid (HPU4.out w7 q7 cap7 b7' hq71 hq72 hw7 hcap7)
      clear hw7 hcap7 hq71 hq72
      refine call1 (i := 7) (d := some 120) (by kernel_rfl) (by kernel_rfl) ?_
      intro o ho hod K hK; simp only [gZa, gZb, gZc, gZd] at ho; subst ho
      go_simp
      refine HCP.out.mono ?_
      rintro e w8 ⟨⟨g8, c8, P8, Q8, rfl, hg8, l8⟩, b8⟩
      have b8' := keepS b7' b8
      have HJ8 := hid (HS8.out.setN0 b8' l8 HNL4.out (by have := b7'.size; omega) (fun i hi => ((HCNL.out S.l.length (k + 1)).2 i hi).1))
      have O8 := HS8.out.n.below b8' HS8.out.n.lt
      refine hK.out _ _ (HSE4.out _ (keepS HS8.out.low b8')) (fun hHeld => ?_)
      clear hK K
      try simp only [Act.put, sZa, sZb, sZc]
      refine tk 8 121 ?_ (by kernel_rfl) (fun _ _ _ h => h) ?_ hHeld ?_
      rotate_left
      ·(intro o ho; simp only [gZa, gZb, gZc, gZd] at ho; subst ho; refine Or.inl ⟨by rfl, ?_⟩; intro w hSw; (try dsimp only at hSw); go_simp; try with_reducible rfl)
      try simp only [Act.put, sZa, sZb, sZc]
      have o0 := O8.c0
      have of := O8.f 0
      rw [hlp4] at o0
      clear O8
      refine call1 (i := 9) (d := none) (by kernel_rfl) (by kernel_rfl) ?_
      intro o ho hod K hK; simp only [gZa, gZb, gZc, gZd] at ho; subst ho
      go_simp
      clear hHeld
      refine hK.out _ _ (HSE4.out _ HJ8.out.low) (fun hHeld => ?_)
      clear hK K
      try simp only [Act.put, sZa, sZb, sZc]
      refine wpAnyH_done (by kernel_rfl) ?_ _
      clear hHeld b7 b7' b8 b8' l8 hg8 o0 of HCP HPU4 HLF4 HSE4
      go_wp2_with fail
      go_roundw
      case rel => exact ⟨k + 1, g3, c3, g8, c8, P3, Q3, P8, Q8, _, _, hltk, by go_num, HJ8⟩
      case measure => simp [intOf]; omega
     ·
      intro o ho hod K hK; simp only [gZa, gZb, gZc, gZd] at ho; subst ho
      go_simp
      refine (HLF4.out _ (Below.refl _ _).drew).mono ?_
      rintro e w7 ⟨q7, cap7, rfl, b7, hq71, hq72, hw7, hcap7⟩
      have b7' : Below wd.heap.size wd w7 := ⟨b7.os, b7.tape, b7.output, b7.size, b7.block⟩
      refine hK.out _ _ (HSE4.out _ (keepS HS8.out.low b7')) (fun hHeld => ?_)
      clear hK K
      try simp only [Act.put, sZa, sZb, sZc]
      have t0 := (HS8.out.n.below b7' HS8.out.n.lt).c0
      rw [hlp4] at t0
      refine call1 (i := 1) (d := some 114) (by kernel_rfl) (by kernel_rfl) ?_
      intro o ho hod K hK; simp only [gZa, gZb, gZc, gZd] at ho; subst ho
      go_simp
      refine hK.out _ _ (HSE4.out _ (keepS HS8.out.low b7')) (fun hHeld => ?_)
      clear hK K
      try simp only [Act.put, sZa, sZb, sZc]
      clear t0
      have HCP := hid (HPU4.out w7 q7 cap7 b7' hq71 hq72 hw7 hcap7)
      clear hw7 hcap7 hq71 hq72
      refine call1 (i := 7) (d := some 120) (by kernel_rfl) (by kernel_rfl) ?_
      intro o ho hod K hK; simp only [gZa, gZb, gZc, gZd] at ho; subst ho
      go_simp
      refine HCP.out.mono ?_
      rintro e w8 ⟨⟨g8, c8, P8, Q8, rfl, hg8, l8⟩, b8⟩
      have b8' := keepS b7' b8
      have HJ8 := hid (HS8.out.setN0 b8' l8 HNL4.out (by have := b7'.size; omega) (fun i hi => ((HCNL.out S.l.length (k + 1)).2 i hi).1))
      have O8 := HS8.out.n.below b8' HS8.out.n.lt
      refine hK.out _ _ (HSE4.out _ (keepS HS8.out.low b8')) (fun hHeld => ?_)
      clear hK K
      try simp only [Act.put, sZa, sZb, sZc]
      refine tk 8 121 ?_ (by kernel_rfl) (fun _ _ _ h => h) ?_ hHeld ?_
      rotate_left
      ·(intro o ho; simp only [gZa, gZb, gZc, gZd] at ho; subst ho; refine Or.inl ⟨by rfl, ?_⟩; intro w hSw; (try dsimp only at hSw); go_simp; try with_reducible rfl)
      try simp only [Act.put, sZa, sZb, sZc]
      have o0 := O8.c0
      have of := O8.f 0
      rw [hlp4] at o0
      clear O8
      refine call1 (i := 9) (d := none) (by kernel_rfl) (by kernel_rfl) ?_
      intro o ho hod K hK; simp only [gZa, gZb, gZc, gZd] at ho; subst ho
      go_simp
      clear hHeld
      refine hK.out _ _ (HSE4.out _ HJ8.out.low) (fun hHeld => ?_)
      clear hK K
      try simp only [Act.put, sZa, sZb, sZc]
      refine wpAnyH_done (by kernel_rfl) ?_ _
      clear hHeld b7 b7' b8 b8' l8 hg8 o0 of HCP HPU4 HLF4 HSE4
      go_wp2_with fail
      go_roundw
      case rel => exact ⟨k + 1, g3, c3, g8, c8, P3, Q3, P8, Q8, _, _, hltk, by go_num, HJ8⟩
      case measure => simp [intOf]; omega
    ·obtain rfl : k = P.length := by omega
     have e1 := HS.out.ld
     have e2 := HS.out.ln
     obtain ⟨ra1, rc1, hv1, _⟩ := HS.out.fd.fs
     subst hv1
     obtain ⟨ra2, rc2, hv2, _⟩ := HS.out.fn.fs
     subst hv2
     have HN1 : Hid (SNc wr (w.heap.size + 3) (some ⟨gD, 0, none⟩) ra1 (mkS (cDL P P.length) (cDR gn S.l P S.l.length P.length))) := hid (mk_at HS.out.ld HS.out.fd)
     have HN2 : Hid (SNc wr (w.heap.size + 3) (some ⟨gN, 0, none⟩) ra2 (mkS (cNL gn S.l P S.l.length P.length) (cNR S P P.length))) := hid (mk_at HS.out.ln HS.out.fn)
     rw [cDL_end HLN.out.2.2, cDR_end] at HN1
     rw [cNL_end, cNR_end] at HN2
     have HDX : Hid (dlS gn S.l P = mkS P (dlU gn S.l P) ∧ jnS S (dlS gn S.l P) = mkS (nxL gn S.l P) (nxU S P)) := hid ⟨rfl, chg_s HS0.out HPT.out⟩
     have D1 := HS.out.d
     have N1 := HS.out.n
     rw [cDL_end HLN.out.2.2, cDR_end] at D1
     rw [cNL_end, cNR_end] at N1
     obtain ⟨d1, hd1⟩ : ∃ d1, P.length = d1 := ⟨_, rfl⟩
     obtain ⟨d2, hd2⟩ : ∃ d2, (dlU gn S.l P).length = d2 := ⟨_, rfl⟩
     obtain ⟨n1, hn1⟩ : ∃ n1, (nxL gn S.l P).length = n1 := ⟨_, rfl⟩
     obtain ⟨n2, hn2⟩ : ∃ n2, (nxU S P).length = n2 := ⟨_, rfl⟩
     have HBD : Hid (d1 ≤ 1 ∧ d2 ≤ 1001 ∧ n1 ≤ 1001 ∧ n2 ≤ 1001) := hid (by
      refine ⟨by rw [← hd1]; exact HLN.out.2.2, ?_, ?_, ?_⟩
      ·rw [← hd2, ← cDR_end]; exact (HCDR.out _ _).2
      ·rw [← hn1, ← cNL_end]; exact (HCNL.out _ _).1
      ·rw [← hn2, ← cNR_end]; exact (HCNR.out _).2)
     have HCF : Hid (chF S (dlS gn S.l P) = ((decide (n1 ≤ 1000) && decide (n2 ≤ 1000)) && (decide (d1 ≤ 1000) && decide (d2 ≤ 1000)))) := hid (by
      unfold chF jnF
      rw [HDX.out.2, HDX.out.1, ← hn1, ← hn2, ← hd1, ← hd2]
      rfl)
     rw [hd1, hd2] at D1
     rw [hn1, hn2] at N1
     have HLD := hid (And.intro hd1 (And.intro hd2 (And.intro hn1 hn2)))
     have HF1 := hid (l3FitsC (some ⟨gD, 0, none⟩) ra1 d1 d2 cD rc1 wr (by have := HBD.out; omega) (by have := HBD.out; omega))
     have HF2 := hid (fun w3 => l3FitsC (some ⟨gN, 0, none⟩) ra2 n1 n2 cN rc2 w3 (by have := HBD.out; omega) (by have := HBD.out; omega))
     have HD1 := hid D1
     have HNB := hid N1
     have HLOW := hid HS.out.low
     have HR1 := hid HS.out.r1
     have HR2 := hid HS.out.r2
     have HTT : Hid (w.heap.size + 3 ≤ t1 ∧ w.heap.size + 3 ≤ t2 ∧ t1 ≠ t2) := hid ⟨HS.out.h1, HS.out.h2, HS.out.h12⟩
     obtain ⟨B1, hB1⟩ : ∃ B1, (decide (d1 ≤ 1000) && decide (d2 ≤ 1000)) = B1 := ⟨_, rfl⟩
     obtain ⟨B2, hB2⟩ : ∃ B2, (decide (n1 ≤ 1000) && decide (n2 ≤ 1000)) = B2 := ⟨_, rfl⟩
     rw [hB1] at HF1 HCF
     rw [hB2] at HCF
     have HF2' : Hid (∀ w3, Calls Tryz.prog 51 #[.agg #[.slice (some ⟨gN, 0, none⟩) n1 cN, .slice ra2 n2 rc2]] w3 fun e w' => e = .returned (.bool B2) ∧ Below w3.heap.size w3 w') := hid (fun w3 => by rw [← hB2]; exact HF2.out w3)
     have x0 := D1.c0
     have x1 := D1.c1
     clear hB1 hB2 HF2 D1 N1 HS e1 e2 hd1 hd2 hn1 hn2
     go_wp2_with fail
     refine HF1.out.mono ?_
     rintro e w3 ⟨rfl, b3⟩
     clear x0 x1 HF1
     cases B1 with
     | false =>
      have HZ : Hid (X = Sx.mt ∧ Y = Sx.mt ∧ CC = 4) := hid (by
       have e : chF S (dlS gn S.l P) = false := by rw [HCF.out]; simp
       obtain ⟨z1, z2, z3⟩ := ch_f e
       exact ⟨HXYC.out.1.symm.trans z1, HXYC.out.2.1.symm.trans z2, HXYC.out.2.2.symm.trans z3⟩)
      have HBB := hid (keepS HLOW.out b3)
      have HRR1 := hid (HR1.out.below b3 HR1.out.lt)
      have HRR2 := hid (HR2.out.below b3 HR2.out.lt)
      clear b3
      have r0 := HRR1.out.c0
      have r1 := HRR1.out.c1
      have rf := HRR1.out.f
      have HC3 := hid (HRR1.out.set (.slice none 0 0) (.slice none 0 0))
      have Q3 := (HRR2.out.setAt ⟨w.heap.size + 1, 0, none⟩ (.slice none 0 0) (by show w.heap.size + 1 ≠ w.heap.size + 1 + 1; omega)).setAt ⟨w.heap.size + 1, 1, none⟩ (.slice none 0 0) (by show w.heap.size + 1 ≠ w.heap.size + 1 + 1; omega)
      have q0 := Q3.c0
      have q1 := Q3.c1
      have qf := Q3.f
      have HQ4 := hid (Q3.set (.slice none 0 0) (.slice none 0 0))
      have HC4 := hid ((HC3.out.setAt ⟨w.heap.size + 1 + 1, 0, none⟩ (.slice none 0 0) (by show w.heap.size + 1 + 1 ≠ w.heap.size + 1; omega)).setAt ⟨w.heap.size + 1 + 1, 1, none⟩ (.slice none 0 0) (by show w.heap.size + 1 + 1 ≠ w.heap.size + 1; omega))
      clear Q3
      go_wp2_with fail
      have s0 := HC4.out.c0
      have s1 := HC4.out.c1
      have s2 := HQ4.out.c0
      have s3 := HQ4.out.c1
      refine bodyPost_ret (v := .tuple #[.agg #[.slice none 0 0, .slice none 0 0], .agg #[.slice none 0 0, .slice none 0 0], .int .i64 4]) (by simp [results, Tryz.results26, go_sem, s0, s1, s2, s3]) rfl ⟨none, 0, none, 0, none, 0, none, 0, by rw [HZ.out.1, HZ.out.2.1, HZ.out.2.2]; rfl, ?_, ?_, ?_⟩
      ·rw [HZ.out.1]; exact SNc.mt _ _ _ _
      ·rw [HZ.out.2.1]; exact SNc.mt _ _ _ _
      ·exact (((HBB.out.setCell (by simp) _).setCell (by simp) _).setCell (by simp; omega) _).setCell (by simp; omega) _
     | true =>
      have N3 := HNB.out.below b3 HNB.out.lt
      have x0 := N3.c0
      have x1 := N3.c1
      have HB3 := hid b3
      clear b3 N3
      go_wp2_with fail
      refine (HF2'.out w3).mono ?_
      rintro e w4 ⟨rfl, b4⟩
      have b34 := keepS HB3.out b4
      have HBB := hid (keepS HLOW.out b34)
      have HRR1 := hid (HR1.out.below b34 HR1.out.lt)
      have HRR2 := hid (HR2.out.below b34 HR2.out.lt)
      have HDD := hid (HD1.out.below b34 HD1.out.lt)
      have HNN := hid (HNB.out.below b34 HNB.out.lt)
      have HN1' := hid (HN1.out.below b34)
      have HN2' := hid (HN2.out.below b34)
      clear b4 b34 x0 x1 HF2'
      cases B2 with
      | false =>
       have HZ : Hid (X = Sx.mt ∧ Y = Sx.mt ∧ CC = 4) := hid (by
        have e : chF S (dlS gn S.l P) = false := by rw [HCF.out]; simp
        obtain ⟨z1, z2, z3⟩ := ch_f e
        exact ⟨HXYC.out.1.symm.trans z1, HXYC.out.2.1.symm.trans z2, HXYC.out.2.2.symm.trans z3⟩)
       have r0 := HRR1.out.c0
       have r1 := HRR1.out.c1
       have rf := HRR1.out.f
       have HC3 := hid (HRR1.out.set (.slice none 0 0) (.slice none 0 0))
       have Q3 := (HRR2.out.setAt ⟨w.heap.size + 1, 0, none⟩ (.slice none 0 0) (by show w.heap.size + 1 ≠ w.heap.size + 1 + 1; omega)).setAt ⟨w.heap.size + 1, 1, none⟩ (.slice none 0 0) (by show w.heap.size + 1 ≠ w.heap.size + 1 + 1; omega)
       have q0 := Q3.c0
       have q1 := Q3.c1
       have qf := Q3.f
       have HQ4 := hid (Q3.set (.slice none 0 0) (.slice none 0 0))
       have HC4 := hid ((HC3.out.setAt ⟨w.heap.size + 1 + 1, 0, none⟩ (.slice none 0 0) (by show w.heap.size + 1 + 1 ≠ w.heap.size + 1; omega)).setAt ⟨w.heap.size + 1 + 1, 1, none⟩ (.slice none 0 0) (by show w.heap.size + 1 + 1 ≠ w.heap.size + 1; omega))
       clear Q3
       go_wp2_with fail
       have s0 := HC4.out.c0
       have s1 := HC4.out.c1
       have s2 := HQ4.out.c0
       have s3 := HQ4.out.c1
       refine bodyPost_ret (v := .tuple #[.agg #[.slice none 0 0, .slice none 0 0], .agg #[.slice none 0 0, .slice none 0 0], .int .i64 4]) (by simp [results, Tryz.results26, go_sem, s0, s1, s2, s3]) rfl ⟨none, 0, none, 0, none, 0, none, 0, by rw [HZ.out.1, HZ.out.2.1, HZ.out.2.2]; rfl, ?_, ?_, ?_⟩
       ·rw [HZ.out.1]; exact SNc.mt _ _ _ _
       ·rw [HZ.out.2.1]; exact SNc.mt _ _ _ _
       ·exact (((HBB.out.setCell (by simp) _).setCell (by simp) _).setCell (by simp; omega) _).setCell (by simp; omega) _
      | true =>
       have HZ : Hid (X = mkS (nxL gn S.l P) (nxU S P) ∧ Y = mkS P (dlU gn S.l P) ∧ CC = 0) := hid (by
        have e : chF S (dlS gn S.l P) = true := by rw [HCF.out]; rfl
        obtain ⟨z1, z2, z3⟩ := ch_t e
        exact ⟨HXYC.out.1.symm.trans (z1.trans HDX.out.2), HXYC.out.2.1.symm.trans (z2.trans HDX.out.1), HXYC.out.2.2.symm.trans z3⟩)
       have HSE : Hid (∀ w', Bx2 w' t1 (.slice (some ⟨gD, 0, none⟩) d1 cD) (.slice ra1 d2 rc1) → Bx2 w' t2 (.slice (some ⟨gN, 0, none⟩) n1 cN) (.slice ra2 n2 rc2) → (w'.cell? ⟨t1, 0, none⟩ = some (.slice (some ⟨gD, 0, none⟩) d1 cD) ∧ w'.cell? ⟨t1, 1, none⟩ = some (.slice ra1 d2 rc1) ∧ w'.cell? ⟨t2, 0, none⟩ = some (.slice (some ⟨gN, 0, none⟩) n1 cN) ∧ w'.cell? ⟨t2, 1, none⟩ = some (.slice ra2 n2 rc2))) := hid (fun w' h1 h2 => ⟨h1.c0, h1.c1, h2.c0, h2.c1⟩)
       go_wp2_with fail
       refine wp_region_held_drew (S := fun w' => w'.cell? ⟨t1, 0, none⟩ = some (.slice (some ⟨gD, 0, none⟩) d1 cD) ∧ w'.cell? ⟨t1, 1, none⟩ = some (.slice ra1 d2 rc1) ∧ w'.cell? ⟨t2, 0, none⟩ = some (.slice (some ⟨gN, 0, none⟩) n1 cN) ∧ w'.cell? ⟨t2, 1, none⟩ = some (.slice ra2 n2 rc2)) (by kernel_rfl) (HSE.out _ (HDD.out.below (Below.refl _ _).drew HDD.out.lt) (HNN.out.below (Below.refl _ _).drew HNN.out.lt)) (fun hHeld => ?_)
       refine tk 0 132 ?_ (by kernel_rfl) (fun _ _ _ h => h) ?_ hHeld (tk 1 133 ?_ (by kernel_rfl) (fun _ _ _ h => h) ?_ hHeld ?_)
       iterate 2 (rotate_left; focus (intro o ho; simp only [gZa, gZb, gZc, gZd] at ho; subst ho; refine Or.inl ⟨by rfl, ?_⟩; intro w hSw; (try dsimp only at hSw); (try simp only [Act.put, sZa, sZb, sZc]); go_simp; try with_reducible rfl))
       try simp only [Act.put, sZa, sZb, sZc]
       obtain ⟨u0, hu0⟩ : ∃ u0, w4.drew = u0 := ⟨_, rfl⟩
       have bu : Below w4.heap.size w4 u0 := by rw [← hu0]; exact (Below.refl _ _).drew
       rw [hu0]
       clear hu0
       have R1 := HRR1.out.below bu HRR1.out.lt
       have R2 := HRR2.out.below bu HRR2.out.lt
       have r0 := R1.c0
       have r1 := R1.c1
       have rf := R1.f
       have htt := HTT.out
       have DA := ((HDD.out.below bu HDD.out.lt).setAt ⟨w.heap.size + 1, 0, none⟩ (.slice (some ⟨gN, 0, none⟩) n1 cN) (by show w.heap.size + 1 ≠ t1; omega)).setAt ⟨w.heap.size + 1, 1, none⟩ (.slice ra2 n2 rc2) (by show w.heap.size + 1 ≠ t1; omega)
       have NA := ((HNN.out.below bu HNN.out.lt).setAt ⟨w.heap.size + 1, 0, none⟩ (.slice (some ⟨gN, 0, none⟩) n1 cN) (by show w.heap.size + 1 ≠ t2; omega)).setAt ⟨w.heap.size + 1, 1, none⟩ (.slice ra2 n2 rc2) (by show w.heap.size + 1 ≠ t2; omega)
       have RA := R1.set (.slice (some ⟨gN, 0, none⟩) n1 cN) (.slice ra2 n2 rc2)
       have QA := (R2.setAt ⟨w.heap.size + 1, 0, none⟩ (.slice (some ⟨gN, 0, none⟩) n1 cN) (by show w.heap.size + 1 ≠ w.heap.size + 1 + 1; omega)).setAt ⟨w.heap.size + 1, 1, none⟩ (.slice ra2 n2 rc2) (by show w.heap.size + 1 ≠ w.heap.size + 1 + 1; omega)
       have DB := (DA.setAt ⟨w.heap.size + 1 + 1, 0, none⟩ (.slice (some ⟨gD, 0, none⟩) d1 cD) (by show w.heap.size + 1 + 1 ≠ t1; omega)).setAt ⟨w.heap.size + 1 + 1, 1, none⟩ (.slice ra1 d2 rc1) (by show w.heap.size + 1 + 1 ≠ t1; omega)
       have NB := (NA.setAt ⟨w.heap.size + 1 + 1, 0, none⟩ (.slice (some ⟨gD, 0, none⟩) d1 cD) (by show w.heap.size + 1 + 1 ≠ t2; omega)).setAt ⟨w.heap.size + 1 + 1, 1, none⟩ (.slice ra1 d2 rc1) (by show w.heap.size + 1 + 1 ≠ t2; omega)
       have RB := hid ((RA.setAt ⟨w.heap.size + 1 + 1, 0, none⟩ (.slice (some ⟨gD, 0, none⟩) d1 cD) (by show w.heap.size + 1 + 1 ≠ w.heap.size + 1; omega)).setAt ⟨w.heap.size + 1 + 1, 1, none⟩ (.slice ra1 d2 rc1) (by show w.heap.size + 1 + 1 ≠ w.heap.size + 1; omega))
       have QB := hid (QA.set (.slice (some ⟨gD, 0, none⟩) d1 cD) (.slice ra1 d2 rc1))
       have HQA := hid QA
       clear R1 R2 RA QA
       refine call1 (i := 2) (d := none) (by kernel_rfl) (by kernel_rfl) ?_
       intro o ho hod K hK; simp only [gZa, gZb, gZc, gZd] at ho; subst ho
       go_simp
       refine hK.out _ _ (HSE.out _ DA NA) (fun hHeld => ?_)
       clear hK K
       try simp only [Act.put, sZa, sZb, sZc]
       clear r0 r1 rf
       have r0 := HQA.out.c0
       have r1 := HQA.out.c1
       have rf := HQA.out.f
       refine call1 (i := 3) (d := none) (by kernel_rfl) (by kernel_rfl) ?_
       intro o ho hod K hK; simp only [gZa, gZb, gZc, gZd] at ho; subst ho
       go_simp
       refine hK.out _ _ (HSE.out _ DB NB) (fun hHeld => ?_)
       clear hK K
       try simp only [Act.put, sZa, sZb, sZc]
       refine tk 4 8 ?_ (by kernel_rfl) (fun _ _ _ h => h) ?_ hHeld ?_
       rotate_left
       ·(intro o ho; simp only [gZa, gZb, gZc, gZd] at ho; subst ho; refine Or.inl ⟨by rfl, ?_⟩; intro w hSw; (try dsimp only at hSw); go_simp; try with_reducible rfl)
       try simp only [Act.put, sZa, sZb, sZc]
       refine wpAnyH_done (by kernel_rfl) ?_ _
       have HBU := hid bu
       clear hHeld r0 r1 rf DA NA DB NB bu HSE
       go_wp2_with fail
       have s0 := RB.out.c0
       have s1 := RB.out.c1
       have s2 := QB.out.c0
       have s3 := QB.out.c1
       refine bodyPost_ret (v := .tuple #[.agg #[.slice (some ⟨gN, 0, none⟩) n1 cN, .slice ra2 n2 rc2], .agg #[.slice (some ⟨gD, 0, none⟩) d1 cD, .slice ra1 d2 rc1], .int .i64 0]) (by simp [results, Tryz.results26, go_sem, s0, s1, s2, s3]) rfl ⟨some ⟨gN, 0, none⟩, cN, ra2, rc2, some ⟨gD, 0, none⟩, cD, ra1, ⟨rc1, ?_⟩, ?_, ?_, ?_⟩
       ·obtain ⟨z1, z2, z3⟩ := HZ.out
        obtain ⟨l1, l2, l3, l4⟩ := HLD.out
        rw [z1, z2, z3]
        show _ = Ending.returned (.tuple #[.agg #[.slice _ (nxL gn S.l P).length _, .slice _ (nxU S P).length _], .agg #[.slice _ P.length _, .slice _ (dlU gn S.l P).length _], _])
        rw [l1, l2, l3, l4]
       ·rw [HZ.out.1]
        refine (HN2'.out.below HBU.out).move (by omega) (by simp [World.setCell]) (fun q h1 h2 => ?_)
        rw [Below.heap_setCell _ _ _ _ (by simp; omega), Below.heap_setCell _ _ _ _ (by simp; omega), Below.heap_setCell _ _ _ _ (by simp; omega), Below.heap_setCell _ _ _ _ (by simp; omega)]
       ·rw [HZ.out.2.1]
        refine (HN1'.out.below HBU.out).move (by omega) (by simp [World.setCell]) (fun q h1 h2 => ?_)
        rw [Below.heap_setCell _ _ _ _ (by simp; omega), Below.heap_setCell _ _ _ _ (by simp; omega), Below.heap_setCell _ _ _ _ (by simp; omega), Below.heap_setCell _ _ _ _ (by simp; omega)]
       ·exact ((((keepS HBB.out HBU.out).setCell (by simp) _).setCell (by simp) _).setCell (by simp; omega) _).setCell (by simp; omega) _
end Go.Proofs.YtcbcabhjododoaaGreat
namespace Go.Proofs.YtcbcabhjododoaaGreat
open Go.ChangeShapes Go.WideShapes Go.ChangeAt Go.RowKit
end Go.Proofs.YtcbcabhjododoaaGreat
namespace Go.Proofs.YtcbcabhjododoaaGreat
open Go.ChangeShapes Go.WideShapes Go.ChangeAt Go.RowKit Go.Maps
theorem twoB {w : World} {r1 r2 : Nat} {u0 u1 u2 u3 : Value} (h1 : Bx2 w r1 u0 u1) (h2 : Bx2 w r2 u2 u3) (hne : r1 ≠ r2) (v0 v1 v2 v3 : Value) : Bx2 ((w.setCell ⟨r1, 0, none⟩ v0).setCell ⟨r1, 1, none⟩ v1) r2 u2 u3 ∧ Bx2 ((((w.setCell ⟨r1, 0, none⟩ v0).setCell ⟨r1, 1, none⟩ v1).setCell ⟨r2, 0, none⟩ v2).setCell ⟨r2, 1, none⟩ v3) r1 v0 v1 ∧ Bx2 ((((w.setCell ⟨r1, 0, none⟩ v0).setCell ⟨r1, 1, none⟩ v1).setCell ⟨r2, 0, none⟩ v2).setCell ⟨r2, 1, none⟩ v3) r2 v2 v3 :=
 ⟨(h2.setAt _ _ hne).setAt _ _ hne, ((h1.set v0 v1).setAt _ _ (Ne.symm hne)).setAt _ _ (Ne.symm hne), ((h2.setAt _ _ hne).setAt _ _ hne).set v2 v3⟩
theorem below4 {w w1 : World} {B r1 r2 : Nat} (h : Below B w w1) (h1 : B ≤ r1) (h2 : B ≤ r2) (v0 v1 v2 v3 : Value) : Below B w ((((w1.setCell ⟨r1, 0, none⟩ v0).setCell ⟨r1, 1, none⟩ v1).setCell ⟨r2, 0, none⟩ v2).setCell ⟨r2, 1, none⟩ v3) :=
 (((h.setCell (p := ⟨r1, 0, none⟩) h1 _).setCell (p := ⟨r1, 1, none⟩) h1 _).setCell (p := ⟨r2, 0, none⟩) h2 _).setCell (p := ⟨r2, 1, none⟩) h2 _
theorem size4 {w : World} {a b c d : Addr} {v0 v1 v2 v3 : Value} : ((((w.setCell a v0).setCell b v1).setCell c v2).setCell d v3).heap.size = w.heap.size := by simp [World.setCell]
theorem snc4 {w : World} {lo lo' r1 r2 : Nat} {a x : Option Addr} {Z : Sx} (h : SNc w lo a x Z) (hl : lo' ≤ lo) (h1 : r1 < lo) (h2 : r2 < lo) (v0 v1 v2 v3 : Value) : SNc ((((w.setCell ⟨r1, 0, none⟩ v0).setCell ⟨r1, 1, none⟩ v1).setCell ⟨r2, 0, none⟩ v2).setCell ⟨r2, 1, none⟩ v3) lo' a x Z :=
 h.move hl (by simp [World.setCell]) (fun q k1 k2 => by
  rw [Below.heap_setCell _ _ _ _ (by simp; omega), Below.heap_setCell _ _ _ _ (by simp; omega), Below.heap_setCell _ _ _ _ (by simp; omega), Below.heap_setCell _ _ _ _ (by simp; omega)])
theorem sow4 {w : World} {lo hi r1 r2 d : Nat} {a x : Option Addr} {Z : Sx} (h : SOw w lo hi a x d Z) (h1 : r1 < lo) (h2 : r2 < lo) (v0 v1 v2 v3 : Value) : SOw ((((w.setCell ⟨r1, 0, none⟩ v0).setCell ⟨r1, 1, none⟩ v1).setCell ⟨r2, 0, none⟩ v2).setCell ⟨r2, 1, none⟩ v3) lo hi a x d Z :=
 (((h.set ⟨r1, 0, none⟩ _ (.inl h1)).set ⟨r1, 1, none⟩ _ (.inl h1)).set ⟨r2, 0, none⟩ _ (.inl h2)).set ⟨r2, 1, none⟩ _ (.inl h2)
theorem infoBool : (Tryz.prog.info? 4).map (fun i => (i.zero, i.size, i.bytes)) = some (some (.bool false), 1, 1) := by kernel_rfl
def bRow (bs : List Bool) : List Value := bs.map fun b => .bool b
def BR (w : World) (B : Nat) (v : Value) (bs : List Bool) : Prop := w.ownsRow B 4 1 v bs.length (bRow bs) ∧ v ≠ .slice none 0 0
theorem BR.lt {w : World} {B : Nat} {v : Value} {bs : List Bool} (h : BR w B v bs) : ∀ g, v.ownBlock = some g → B ≤ g ∧ g < w.heap.size := fun g e => World.ownsRow.lt h.1 g e
theorem BR.below {w w1 : World} {B : Nat} {v : Value} {bs : List Bool} (h : BR w B v bs) (hb : Below w.heap.size w w1) : BR w1 B v bs := ⟨own_at5 h.1 (fun g hg => hb.block g (h.lt g hg).2), h.2⟩
theorem BR.new (w : World) : BR (w.alloc (.cells #[] 4)) w.heap.size (.slice (some ⟨w.heap.size, 0, none⟩) 0 0) [] := by
 refine ⟨?_, fun e => by cases e⟩
 exact World.ownsRow_lit (base := w.heap.size) (e := 4) (size := 1) w #[] 0 (Nat.le_refl _) (by unfold maxLen; omega) rfl
theorem boolApp (B : Nat) (w : World) (v : Value) (bs : List Bool) (b : Bool) (h : BR w B v bs) (hB : B ≤ w.heap.size) (hl : bs.length ≤ 1048576) :
  ∃ v' w', (Builtin.append_ #[53, 53] 53 #[v, .slice (some ⟨w.heap.size, 0, none⟩) 1 1]).run Tryz.prog (w.alloc (.cells #[.bool b] 4)) = .ok v' w' ∧ BR w' B v' (bs ++ [b]) ∧ Below B w w' := by
 obtain ⟨i0, hi, hz0, hz1, hz2⟩ := info_parts infoBool
 have b1 : Below w.heap.size w (w.alloc (.cells #[.bool b] 4)) := (Below.refl _ _).alloc (Nat.le_refl _) _
 have h1 := h.below b1
 obtain ⟨v', w', k1, k2, k3, k4⟩ := run_append_own (P := Tryz.prog) (w.alloc (.cells #[.bool b] 4)) B 53 53 4 i0 (.bool false) 1 1 Tryz.underlying53 hi hz0 hz1 hz2 rfl (by decide) v bs.length (bRow bs) h1.1 ⟨w.heap.size, 0, none⟩ 1 1 (bRow [b]) rfl (fun j u hu => by
  match j, hu with
  | 0, hu => simp [bRow] at hu; subst hu; simp [Addr.add]
  | j + 1, hu => simp [bRow] at hu) (fun u hu => by
   obtain ⟨s, _, rfl⟩ := List.mem_map.1 hu
   rfl) (by unfold maxLen; omega) (by omega) (by simp; omega)
 refine ⟨v', w', k1, ⟨?_, fun e => h.2 (k4.1 e).1⟩, ?_⟩
 ·rw [List.length_append]; simpa [bRow] using k2
 ·exact (b1.mono hB).grown k3 (by simp; omega) (fun k hk => (h1.lt k hk).1)
theorem BR.cells {w : World} {B : Nat} {v : Value} {bs : List Bool} (h : BR w B v bs) : ∃ g c, v = .slice (some ⟨g, 0, none⟩) bs.length c ∧ g < w.heap.size ∧ ∀ i, i < bs.length → w.cell? ⟨g, i, none⟩ = some (.bool (bs.getD i false)) := by
 rcases h.1.2 with ⟨e, h0⟩ | ⟨g, cap, cur, rfl, hbase, hb, h1, h2, h3, h4⟩
 ·exact absurd e h.2
 ·refine ⟨g, cap, rfl, (Array.getElem?_eq_some_iff.1 hb).1, fun i hi => ?_⟩
  have q : w.cell? ⟨g, i, none⟩ = (bRow bs)[i]? := by
   rw [← h4, Nat.mul_one, List.getElem?_take_of_lt hi]
   simp [World.cell?, hb]
  rw [q]
  simp [bRow, List.getD, hi]
noncomputable def gnB (gn : Lf → Prop) (l : List Lf) (k : Nat) : List Bool := (l.take k).map fun x => yes (gn x)
theorem gnB_succ {gn : Lf → Prop} {l : List Lf} {k : Nat} (h : k < l.length) : gnB gn l (k + 1) = gnB gn l k ++ [yes (gn (gL l k))] := by
 unfold gnB; rw [take_gL h, List.map_append]; rfl
theorem gnB_len (gn : Lf → Prop) (l : List Lf) : (gnB gn l l.length).length = l.length := by simp [gnB]
theorem gnB_at {gn : Lf → Prop} {l : List Lf} {i : Nat} (h : i < l.length) : (gnB gn l l.length).getD i false = yes (gn (gL l i)) := by
 simp [gnB, List.getD, h, gL]
theorem gnB_le (gn : Lf → Prop) (l : List Lf) (k : Nat) : (gnB gn l k).length ≤ l.length := by simp [gnB, List.length_take]; omega
end Go.Proofs.YtcbcabhjododoaaGreat
