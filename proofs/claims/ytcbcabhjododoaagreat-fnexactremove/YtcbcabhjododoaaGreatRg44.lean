import Derived.Test.YtcbcabhjododoaaGreatRg42
import Derived.Test.YtcbcabhjododoaaGreatRg43
set_option linter.unusedVariables false
set_option linter.unusedSimpArgs false
set_option maxRecDepth 100000
set_option maxHeartbeats 40000000
namespace Go.Proofs.YtcbcabhjododoaaGreat
open Go.ChangeShapes Go.WideShapes Go.ChangeAt Go.RowKit Go.Maps
noncomputable def rmD (S : Sx) (p : List ByteArray) : Sx := dlS (gnR p) S.l []
noncomputable def rmX (S : Sx) (p : List ByteArray) : Sx := if ocC S p ⟨#[]⟩ = 0 then chX S (rmD S p) else Sx.mt
noncomputable def rmY (S : Sx) (p : List ByteArray) : Sx := if ocC S p ⟨#[]⟩ = 0 then chY S (rmD S p) else Sx.mt
noncomputable def rmC (S : Sx) (p : List ByteArray) : Int := if ocC S p ⟨#[]⟩ = 0 then chC S (rmD S p) else ocC S p ⟨#[]⟩
theorem rm_t {S : Sx} {p : List ByteArray} (h : ocC S p ⟨#[]⟩ = 0) : rmX S p = chX S (rmD S p) ∧ rmY S p = chY S (rmD S p) ∧ rmC S p = chC S (rmD S p) := by unfold rmX rmY rmC; rw [if_pos h, if_pos h, if_pos h]; exact ⟨rfl, rfl, rfl⟩
theorem rm_f {S : Sx} {p : List ByteArray} (h : ocC S p ⟨#[]⟩ ≠ 0) : rmX S p = Sx.mt ∧ rmY S p = Sx.mt ∧ rmC S p = ocC S p ⟨#[]⟩ := by unfold rmX rmY rmC; rw [if_neg h, if_neg h, if_neg h]; exact ⟨rfl, rfl, rfl⟩
theorem pth_size {p : List ByteArray} (h : PthOk p) : ∀ i, (gS p i).size ≤ 1048576 := fun i => by
 by_cases hi : i < p.length
 ·have := (h.2.2 i hi).2; omega
 ·rw [gS_far (by omega)]; simp
theorem implRemove (a x pa : Option Addr) (c d pc : Nat) (S : Sx) (p : List ByteArray) (w : World) (hm : S.Sm) (hi : ∀ i, LfI (gL S.l i)) (h : SAt w a x S) (hp : p.length ≤ 1048576) (hseg : SSeg w pa p) :
  Calls Tryz.prog 11 #[.agg #[.slice a S.l.length c, .slice x S.n d], .slice pa p.length pc] w fun e w' => ∃ a c x d a' c' x' d' mid, e = .returned (.tuple #[.agg #[.slice a (rmX S p).l.length c, .slice x (rmX S p).n d], .agg #[.slice a' (rmY S p).l.length c', .slice x' (rmY S p).n d'], .int .i64 (rmC S p)]) ∧ SOw w' w.heap.size mid a x d (rmX S p) ∧ SOw w' mid w'.heap.size a' x' d' (rmY S p) ∧ Below w.heap.size w w' := by
 obtain ⟨W, hW⟩ : ∃ W, ((w.alloc (.cells #[.slice a S.l.length c, .slice x S.n d] 36)).alloc (.cells #[.slice none 0 0, .slice none 0 0] 36)).alloc (.cells #[.slice none 0 0, .slice none 0 0] 36) = W := ⟨_, rfl⟩
 have b0 : Below w.heap.size w W := by rw [← hW]; exact (below2 _ _ _).alloc (by simp; omega) _
 have zW : W.heap.size = w.heap.size + 3 := by rw [← hW]; simp
 have A0 : Bx2 W w.heap.size (.slice a S.l.length c) (.slice x S.n d) := by rw [← hW]; exact ((Bx2.made w _ _ _).allocs _).allocs _
 have R0 : Bx2 W (w.heap.size + 1) (.slice none 0 0) (.slice none 0 0) := by
  rw [← hW]
  have := Bx2.made (w.alloc (.cells #[.slice a S.l.length c, .slice x S.n d] 36)) (.slice none 0 0) (.slice none 0 0) 36
  exact (by simpa using this : Bx2 _ (w.heap.size + 1) _ _).allocs _
 have Q0 : Bx2 W (w.heap.size + 1 + 1) (.slice none 0 0) (.slice none 0 0) := by
  rw [← hW]
  simpa using Bx2.made ((w.alloc (.cells #[.slice a S.l.length c, .slice x S.n d] 36)).alloc (.cells #[.slice none 0 0, .slice none 0 0] 36)) (.slice none 0 0) (.slice none 0 0) 36
 have HOC := hid (openToChangeC a x pa c d pc S p ⟨#[]⟩ W hm hi (h.below b0) hp (hseg.below b0) (by decide))
 have HSG := hid (hseg.below b0)
 have HR0 := hid R0
 have HQ0 := hid Q0
 have HB0 := hid b0
 have HZW := hid zW
 have k0 := A0.c0
 have k1 := A0.c1
 obtain ⟨C, hC⟩ : ∃ C, ocC S p ⟨#[]⟩ = C := ⟨_, rfl⟩
 rw [hC] at HOC
 have HC := hid hC
 clear b0 zW A0 R0 Q0 h hseg hi hm hC
 go_enter Tryz.func11, Tryz.ntmps11
 go_wp2_with fail
 try rw [hW]
 clear hW
 refine HOC.out.mono ?_
 rintro e w1 ⟨⟨u0, u1, u2, rfl, ho⟩, b1⟩
 have HO1 := hid ho
 obtain ⟨w2, hw2⟩ : ∃ w2, w1.alloc (.cells #[.map u0, .map u1, .map u2] 68) = w2 := ⟨_, rfl⟩
 have b2 : Below w1.heap.size w1 w2 := by rw [← hw2]; exact (Below.refl _ _).alloc (Nat.le_refl _) _
 have HX2 : Hid (Bx3 w2 w1.heap.size (.map u0) (.map u1) (.map u2)) := hid (by rw [← hw2]; exact Bx3.made _ _ _ _ _)
 have HW2 := hid (keepS b1 b2)
 have HB12 := hid b2
 have HB2 := hid (keepS HB0.out HW2.out)
 have HR2 := hid (HR0.out.below HW2.out HR0.out.lt)
 have HQ2 := hid (HQ0.out.below HW2.out HQ0.out.lt)
 have HS2 := hid (HSG.out.below HW2.out)
 clear b1 b2 ho k0 k1 HOC
 by_cases hz : C = 0
 ·have HZ := hid (rm_t (S := S) (p := p) (by rw [HC.out]; exact hz))
  have hok := ocC_ok (S := S) (p := p) (v := ⟨#[]⟩) (by rw [HC.out]; exact hz)
  obtain ⟨x0, bm, rfl, rfl, rfl, o1⟩ := HO1.out hz
  have hs := stB_t hok.1
  have hpo := hok.2.1
  obtain ⟨w3, hw3⟩ : ∃ w3, w2.alloc (.cells #[.int .i64 1, .int .i64 2, .int .i64 3] 3) = w3 := ⟨_, rfl⟩
  have b3 : Below w2.heap.size w2 w3 := by rw [← hw3]; exact (Below.refl _ _).alloc (Nat.le_refl _) _
  have hks : ISeg w3 w2.heap.size [1, 2, 3] := by
   rw [← hw3]
   refine ⟨by simp, fun i hi => ?_⟩
   match i, hi with
   | 0, _ => simp [gI]
   | 1, _ => simp [gI]
   | 2, _ => simp [gI]
   | i + 3, hi => exfalso; simp at hi; omega
  have HTB := hid (fun w4 (b4 : Below w3.heap.size w3 w4) => takeBackC (gnR p) p pa pc w2.heap.size 3 [1, 2, 3] w4 ((((o1.below HB12.out).below b3)).below b4) hs hp (pth_size hpo) (fun k hk => by
   simp at hk
   rcases hk with rfl | rfl | rfl <;> decide) (by simp) (by
    have h1 := cW3 (p := p) (by have := hpo.1; omega) S.l
    have h2 := hs.2.1
    simp; omega) (fun x hx => by
    rw [← way_gnR (p := p) (x := x) (by have := hpo.1; omega)]
    constructor
    ·rintro (e | e | e)
     ·exact ⟨1, by simp, e⟩
     ·exact ⟨2, by simp, e⟩
     ·exact ⟨3, by simp, e⟩
    ·rintro ⟨k, hk, e⟩
     simp at hk
     rcases hk with rfl | rfl | rfl
     ·exact .inl e
     ·exact .inr (.inl e)
     ·exact .inr (.inr e)) ((HS2.out.below b3).below b4) (hks.below b4))
  have HB3 := hid b3
  have HX := HX2.out
  have x0' := HX.c0
  have x1' := HX.c1
  have x2' := HX.c2
  obtain ⟨X, hX⟩ : ∃ X, chX S (dlS (gnR p) S.l []) = X := ⟨_, rfl⟩
  obtain ⟨Y, hY⟩ : ∃ Y, chY S (dlS (gnR p) S.l []) = Y := ⟨_, rfl⟩
  obtain ⟨Cc, hCc⟩ : ∃ Cc, chC S (dlS (gnR p) S.l []) = Cc := ⟨_, rfl⟩
  rw [hX, hY, hCc] at HTB
  have HXYC : Hid (rmX S p = X ∧ rmY S p = Y ∧ rmC S p = Cc) := hid ⟨HZ.out.1.trans hX, HZ.out.2.1.trans hY, HZ.out.2.2.trans hCc⟩
  subst hz
  clear o1 hs hpo hok b3 hks HX hX hY hCc
  go_wp2_with fail
  try rw [hw2]
  try rw [hw3]
  refine (HTB.out _ (Below.refl _ _)).mono ?_
  rintro e w4 ⟨ra, rc, rx, rd, ra', rc', rx', rd', mid, rfl, ox, oy, b4⟩
  have b34 := keepS HB3.out b4
  have R4 := HR2.out.below b34 HR2.out.lt
  have Q4 := HQ2.out.below b34 HQ2.out.lt
  have HB4 := hid (keepS HB2.out b34)
  have HOX := hid ox
  have HOY := hid oy
  have HZ3 : Hid (w.heap.size + 3 ≤ w3.heap.size) := hid (by have h1 := HZW.out; have h2 := HW2.out.size; have h3 := HB3.out.size; omega)
  have r0 := R4.c0
  have r1 := R4.c1
  have rf := R4.f
  have HC1 := hid (R4.set (.slice ra X.l.length rc) (.slice rx X.n rd))
  have Q5 := ((Q4.setAt ⟨w.heap.size + 1, 0, none⟩ (.slice ra X.l.length rc) (by show w.heap.size + 1 ≠ w.heap.size + 1 + 1; omega)).setAt ⟨w.heap.size + 1, 1, none⟩ (.slice rx X.n rd) (by show w.heap.size + 1 ≠ w.heap.size + 1 + 1; omega))
  have q0 := Q5.c0
  have q1 := Q5.c1
  have qf := Q5.f
  have HQ6x := hid (Q5.set (.slice ra' Y.l.length rc') (.slice rx' Y.n rd'))
  have HC6 := hid ((HC1.out.setAt ⟨w.heap.size + 1 + 1, 0, none⟩ (.slice ra' Y.l.length rc') (by show w.heap.size + 1 + 1 ≠ w.heap.size + 1; omega)).setAt ⟨w.heap.size + 1 + 1, 1, none⟩ (.slice rx' Y.n rd') (by show w.heap.size + 1 + 1 ≠ w.heap.size + 1; omega))
  clear ox oy b4 b34 R4 Q4 Q5 HTB x0' x1' x2' hw2 hw3
  go_wp2_with fail
  have s0 := HC6.out.c0
  have s1 := HC6.out.c1
  have s2 := HQ6x.out.c0
  have s3 := HQ6x.out.c1
  refine bodyPost_ret (v := .tuple #[.agg #[.slice ra X.l.length rc, .slice rx X.n rd], .agg #[.slice ra' Y.l.length rc', .slice rx' Y.n rd'], .int .i64 Cc]) (by simp [results, Tryz.results11, go_sem, s0, s1, s2, s3]) rfl ?_
  have hz := HZ3.out
  have hmid : w3.heap.size ≤ mid := HOX.out.hl.1
  have G1 := SOw.wide ((((HOX.out.set ⟨w.heap.size + 1, 0, none⟩ (.slice ra X.l.length rc) (.inl (by show w.heap.size + 1 < w3.heap.size; omega))).set ⟨w.heap.size + 1, 1, none⟩ (.slice rx X.n rd) (.inl (by show w.heap.size + 1 < w3.heap.size; omega))).set ⟨w.heap.size + 1 + 1, 0, none⟩ (.slice ra' Y.l.length rc') (.inl (by show w.heap.size + 1 + 1 < w3.heap.size; omega))).set ⟨w.heap.size + 1 + 1, 1, none⟩ (.slice rx' Y.n rd') (.inl (by show w.heap.size + 1 + 1 < w3.heap.size; omega))) (lo' := w.heap.size) (hi' := mid) (by omega) (Nat.le_refl _) (by simp [World.setCell]; exact Nat.le_trans HOY.out.hl.1 HOY.out.hl.2)
  have G2 := ((((HOY.out.set ⟨w.heap.size + 1, 0, none⟩ (.slice ra X.l.length rc) (.inl (by show w.heap.size + 1 < mid; omega))).set ⟨w.heap.size + 1, 1, none⟩ (.slice rx X.n rd) (.inl (by show w.heap.size + 1 < mid; omega))).set ⟨w.heap.size + 1 + 1, 0, none⟩ (.slice ra' Y.l.length rc') (.inl (by show w.heap.size + 1 + 1 < mid; omega))).set ⟨w.heap.size + 1 + 1, 1, none⟩ (.slice rx' Y.n rd') (.inl (by show w.heap.size + 1 + 1 < mid; omega)))
  have G3 := (((HB4.out.setCell (p := ⟨w.heap.size + 1, 0, none⟩) (by show w.heap.size ≤ w.heap.size + 1; omega) (.slice ra X.l.length rc)).setCell (p := ⟨w.heap.size + 1, 1, none⟩) (by show w.heap.size ≤ w.heap.size + 1; omega) (.slice rx X.n rd)).setCell (p := ⟨w.heap.size + 1 + 1, 0, none⟩) (by show w.heap.size ≤ w.heap.size + 1 + 1; omega) (.slice ra' Y.l.length rc')).setCell (p := ⟨w.heap.size + 1 + 1, 1, none⟩) (by show w.heap.size ≤ w.heap.size + 1 + 1; omega) (.slice rx' Y.n rd')
  rw [HXYC.out.1, HXYC.out.2.1, HXYC.out.2.2]
  have hz4 : ((((w4.setCell ⟨w.heap.size + 1, 0, none⟩ (.slice ra X.l.length rc)).setCell ⟨w.heap.size + 1, 1, none⟩ (.slice rx X.n rd)).setCell ⟨w.heap.size + 1 + 1, 0, none⟩ (.slice ra' Y.l.length rc')).setCell ⟨w.heap.size + 1 + 1, 1, none⟩ (.slice rx' Y.n rd')).heap.size = w4.heap.size := by simp [World.setCell]
  rw [hz4]
  first
   | exact ⟨ra, rc, rx, rd, ra', rc', rx', rd', mid, rfl, G1, G2, G3⟩
   | exact ⟨ra, rc, rx, rd, ra', rc', rx', rd', rfl, mid, G1, G2, G3⟩
 ·have HZ := hid (rm_f (S := S) (p := p) (by rw [HC.out]; exact hz))
  have hcz : (C == 0) = false := by simp [hz]
  have r0 := HR2.out.c0
  have r1 := HR2.out.c1
  have rf := HR2.out.f
  have HC3 := hid (HR2.out.set (.slice none 0 0) (.slice none 0 0))
  have Q3 := (HQ2.out.setAt ⟨w.heap.size + 1, 0, none⟩ (.slice none 0 0) (by show w.heap.size + 1 ≠ w.heap.size + 1 + 1; omega)).setAt ⟨w.heap.size + 1, 1, none⟩ (.slice none 0 0) (by show w.heap.size + 1 ≠ w.heap.size + 1 + 1; omega)
  have q0 := Q3.c0
  have q1 := Q3.c1
  have qf := Q3.f
  have HQ4 := hid (Q3.set (.slice none 0 0) (.slice none 0 0))
  have HC4 := hid ((HC3.out.setAt ⟨w.heap.size + 1 + 1, 0, none⟩ (.slice none 0 0) (by show w.heap.size + 1 + 1 ≠ w.heap.size + 1; omega)).setAt ⟨w.heap.size + 1 + 1, 1, none⟩ (.slice none 0 0) (by show w.heap.size + 1 + 1 ≠ w.heap.size + 1; omega))
  clear Q3
  go_wp2_with fail
  try rw [hw2]
  have s0 := HC4.out.c0
  have s1 := HC4.out.c1
  have s2 := HQ4.out.c0
  have s3 := HQ4.out.c1
  refine bodyPost_ret (v := .tuple #[.agg #[.slice none 0 0, .slice none 0 0], .agg #[.slice none 0 0, .slice none 0 0], .int .i64 C]) (by simp [results, Tryz.results11, go_sem, s0, s1, s2, s3]) rfl ⟨none, 0, none, 0, none, 0, none, 0, w.heap.size, by rw [HZ.out.1, HZ.out.2.1, HZ.out.2.2, HC.out]; rfl, ?_, ?_, ?_⟩
  ·rw [HZ.out.1]; exact SOw.mt _ Sx.mt rfl rfl _ _ ⟨Nat.le_refl _, by simp [World.setCell]; exact HB2.out.size⟩ _ _ _
  ·rw [HZ.out.2.1]; exact SOw.emp _ _ _ _ _ (by simp [World.setCell]; exact HB2.out.size)
  ·exact (((HB2.out.setCell (by simp) _).setCell (by simp) _).setCell (by simp; omega) _).setCell (by simp; omega) _
section
variable {S : Sx} {rep : Int} {p : List ByteArray} {fl : Bool} {v : ByteArray}
end
end Go.Proofs.YtcbcabhjododoaaGreat
namespace Go.Proofs.YtcbcabhjododoaaGreat
open Go.ChangeShapes Go.WideShapes Go.ChangeAt Go.RowKit Go.Deep
noncomputable def cDR (g : Lf → Prop) (l P : List Lf) (j k : Nat) : List Rn := unF [] ((goL g (l.take j)).map dtR ++ (P.take k).map dtR)
def cNR (S : Sx) (P : List Lf) (k : Nat) : List Rn := unF (flat S.R S.F S.T S.n) ((P.take k).map dtR)
noncomputable def cNL (g : Lf → Prop) (l P : List Lf) (j k : Nat) : List Lf := (P.take k).foldl (fun o y => insL y o) (stL g (l.take j))
noncomputable def cDL (P : List Lf) (k : Nat) : List Lf := (P.take k).foldl (fun o y => insL y o) []
theorem take_gL {l : List Lf} {j : Nat} (h : j < l.length) : l.take (j + 1) = l.take j ++ [gL l j] := by
 rw [List.take_add_one, List.getElem?_eq_getElem h]
 simp [gL, List.getD, h]
theorem take_mem {l : List Lf} {j : Nat} {x : Lf} (h : x ∈ l.take j) : x ∈ l := List.mem_of_mem_take h
section
variable {g : Lf → Prop} {l P : List Lf} {j k : Nat}
theorem goL_t (h : j < l.length) (hg : g (gL l j)) : goL g (l.take (j + 1)) = goL g (l.take j) ++ [gL l j] := by
 unfold goL; rw [take_gL h, List.filter_append]; congr 1
 simp [yes_t hg]
theorem goL_f (h : j < l.length) (hg : ¬ g (gL l j)) : goL g (l.take (j + 1)) = goL g (l.take j) := by
 unfold goL; rw [take_gL h, List.filter_append]
 simp [yes_f hg]
theorem stL_t (h : j < l.length) (hg : g (gL l j)) : stL g (l.take (j + 1)) = stL g (l.take j) := by
 unfold stL; rw [take_gL h, List.filter_append]
 simp [yes_t hg]
theorem stL_f (h : j < l.length) (hg : ¬ g (gL l j)) : stL g (l.take (j + 1)) = stL g (l.take j) ++ [gL l j] := by
 unfold stL; rw [take_gL h, List.filter_append]; congr 1
 simp [yes_f hg]
theorem cDR_go (h : j < l.length) (hg : g (gL l j)) : cDR g l P (j + 1) 0 = ins (cDR g l P j 0) (dtR (gL l j)) := by
 unfold cDR
 rw [goL_t h hg, List.take_zero, List.map_append, List.map_nil, List.append_nil, List.append_nil]
 exact unF_snoc _ _ _
theorem cDR_st (h : j < l.length) (hg : ¬ g (gL l j)) : cDR g l P (j + 1) 0 = cDR g l P j 0 := by unfold cDR; rw [goL_f h hg]
theorem cNL_go (h : j < l.length) (hg : g (gL l j)) : cNL g l P (j + 1) 0 = cNL g l P j 0 := by unfold cNL; rw [stL_t h hg]
theorem cNL_st (h : j < l.length) (hg : ¬ g (gL l j)) : cNL g l P (j + 1) 0 = cNL g l P j 0 ++ [gL l j] := by
 unfold cNL; rw [stL_f h hg, List.take_zero]; rfl
theorem cDR_put (h : k < P.length) : cDR g l P j (k + 1) = ins (cDR g l P j k) (dtR (gL P k)) := by
 unfold cDR
 rw [take_gL h, List.map_append, ← List.append_assoc]
 exact unF_snoc _ _ _
theorem cNR_put {S : Sx} (h : k < P.length) : cNR S P (k + 1) = ins (cNR S P k) (dtR (gL P k)) := by
 unfold cNR
 rw [take_gL h, List.map_append]
 exact unF_snoc _ _ _
theorem cNL_put (h : k < P.length) : cNL g l P j (k + 1) = insL (gL P k) (cNL g l P j k) := by
 unfold cNL; rw [take_gL h, List.foldl_append]; rfl
theorem cDL_put (h : k < P.length) : cDL P (k + 1) = insL (gL P k) (cDL P k) := by
 unfold cDL; rw [take_gL h, List.foldl_append]; rfl
theorem cDR_end : cDR g l P l.length P.length = dlU g l P := by unfold cDR dlU; rw [List.take_length, List.take_length]
theorem cNR_end {S : Sx} : cNR S P P.length = nxU S P := by unfold cNR nxU; rw [List.take_length]
theorem cNL_end : cNL g l P l.length P.length = nxL g l P := by unfold cNL nxL; rw [List.take_length, List.take_length]
theorem cDL_end (h : P.length ≤ 1) : cDL P P.length = P := by
 unfold cDL; rw [List.take_length]
 match P, h with
 | [], _ => rfl
 | [y], _ => rfl
 | _ :: _ :: _, h => simp at h
theorem fold_len : ∀ (P o : List Lf), (P.foldl (fun o y => insL y o) o).length = o.length + P.length
 | [], o => rfl
 | y :: P, o => by rw [List.foldl_cons, fold_len P, insL_len, List.length_cons]; omega
theorem cNL_len : (cNL g l P j k).length ≤ l.length + P.length := by
 unfold cNL; rw [fold_len]
 have h1 : (stL g (l.take j)).length ≤ (l.take j).length := List.length_filter_le _ _
 rw [List.length_take] at h1 ⊢
 omega
theorem cDL_len : (cDL P k).length ≤ P.length := by
 unfold cDL; rw [fold_len, List.length_take, List.length_nil]
 omega
theorem cDR_len : (cDR g l P j k).length ≤ l.length + P.length := by
 have h0 := unF_len ((goL g (l.take j)).map dtR ++ (P.take k).map dtR) []
 have h1 : (goL g (l.take j)).length ≤ (l.take j).length := List.length_filter_le _ _
 rw [List.length_append, List.length_map, List.length_map, List.length_take, List.length_nil] at h0
 rw [List.length_take] at h1
 show (unF [] _).length ≤ _
 omega
theorem cNR_len {S : Sx} : (cNR S P k).length ≤ S.n + P.length := by
 have h0 := unF_len ((P.take k).map dtR) (flat S.R S.F S.T S.n)
 rw [List.length_map, List.length_take, flatR_len] at h0
 show (unF _ _).length ≤ _
 omega
theorem cNL_mem {z : Lf} (h : z ∈ cNL g l P j k) : z ∈ l ∨ z ∈ P := by
 unfold cNL at h
 rcases (nxL_mem (l := l)).1 h with h | h
 ·exact .inl (take_mem (stL_mem.1 h).1)
 ·exact .inr (take_mem h)
theorem cDL_mem {z : Lf} (h : z ∈ cDL P k) : z ∈ P := by
 unfold cDL at h
 rcases (nxL_mem (l := P)).1 h with h | h
 ·cases h
 ·exact take_mem h
end
section
variable {g : Lf → Prop} {S : Sx} {P : List Lf}
theorem cDR_ok (h : StOk S.R S.F S.T S.n S.l) (hp : PtO S P) (j k : Nat) : FSrt (cDR g S.l P j k) := (unF_ok _ [] fs_nil (fun p hq => by
 refine dl_rok (g := g) h hp p ?_
 rcases List.mem_append.1 hq with hq | hq
 ·obtain ⟨x, hx, rfl⟩ := List.mem_map.1 hq
  exact List.mem_append.2 (.inl (List.mem_map.2 ⟨x, goL_mem.2 ⟨take_mem (goL_mem.1 hx).1, (goL_mem.1 hx).2⟩, rfl⟩))
 ·obtain ⟨x, hx, rfl⟩ := List.mem_map.1 hq
  exact List.mem_append.2 (.inr (List.mem_map.2 ⟨x, take_mem hx, rfl⟩)))).1
theorem cNR_ok (h : StOk S.R S.F S.T S.n S.l) (hp : PtO S P) (k : Nat) : FSrt (cNR S P k) := (unF_ok _ _ (flat_srt S.n (ok_okTo h)) (fun p hq => by
 obtain ⟨x, hx, rfl⟩ := List.mem_map.1 hq
 exact hp.dot x (take_mem hx))).1
theorem pth_of {l : List Lf} (h : ∀ z ∈ l, 1 ≤ z.p.length ∧ z.p.length ≤ 8) : ∀ i, i < l.length → 1 ≤ (gL l i).p.length ∧ (gL l i).p.length ≤ 8 := fun i hi => h _ (gL_mem.2 ⟨i, hi, rfl⟩)
theorem ok_pm (h : StOk S.R S.F S.T S.n S.l) : ∀ z ∈ S.l, 1 ≤ z.p.length ∧ z.p.length ≤ 8 := fun z hz => by
 obtain ⟨j, hj, e⟩ := gL_mem.1 hz
 have := (h.2.2.1 j hj).1
 rw [e] at this
 exact ⟨this.1.1, this.1.2.1⟩
theorem PtO.pm (hp : PtO S P) : ∀ z ∈ P, 1 ≤ z.p.length ∧ z.p.length ≤ 8 := fun z hz => ⟨(hp.ok z hz).1.1, (hp.ok z hz).1.2.1⟩
theorem cNL_pth (h : StOk S.R S.F S.T S.n S.l) (hp : PtO S P) (j k : Nat) : ∀ i, i < (cNL g S.l P j k).length → 1 ≤ (gL (cNL g S.l P j k) i).p.length ∧ (gL (cNL g S.l P j k) i).p.length ≤ 8 := pth_of fun z hz => by
 rcases cNL_mem hz with hz | hz
 ·exact ok_pm h z hz
 ·exact hp.pm z hz
theorem cDL_pth (hp : PtO S P) (k : Nat) : ∀ i, i < (cDL P k).length → 1 ≤ (gL (cDL P k) i).p.length ∧ (gL (cDL P k) i).p.length ≤ 8 := pth_of fun z hz => hp.pm z (cDL_mem hz)
end
theorem mk_at {w : World} {lo g c : Nat} {ra : Option Addr} {rc : Nat} {l : List Lf} {u : List Rn} {P Q : Nat → Nat} (h : LC w lo (.slice (some ⟨g, 0, none⟩) l.length c) l P Q) (hf : FR w lo (.slice ra u.length rc) u) : SNc w lo (some ⟨g, 0, none⟩) ra (mkS l u) := fun w' h1 h2 => by
 have hL := h.move h1 h2
 have hF : FR w' lo (.slice ra u.length rc) u := own_at5 hf (fun q hq => h2 q (World.ownsRow.lt hf q hq).1 (World.ownsRow.lt hf q hq).2)
 obtain ⟨a, c', e, s, _, _⟩ := hF.fs
 injection e with e1 e2 e3
 subst e1
 exact ⟨hL.lcap rfl, s.rseg⟩
structure CS (w wr : World) (t1 t2 : Nat) (va0 va1 : Value) (gD cD : Nat) (DL : List Lf) (DP DQ : Nat → Nat) (vr1 : Value) (DU : List Rn) (gN cN : Nat) (NL : List Lf) (NP NQ : Nat → Nat) (vr2 : Value) (NU : List Rn) : Prop where
 low : Below w.heap.size w wr
 a : Bx2 wr w.heap.size va0 va1
 r1 : Bx2 wr (w.heap.size + 1) (.slice none 0 0) (.slice none 0 0)
 r2 : Bx2 wr (w.heap.size + 1 + 1) (.slice none 0 0) (.slice none 0 0)
 d : Bx2 wr t1 (.slice (some ⟨gD, 0, none⟩) DL.length cD) vr1
 n : Bx2 wr t2 (.slice (some ⟨gN, 0, none⟩) NL.length cN) vr2
 ld : LC wr (w.heap.size + 3) (.slice (some ⟨gD, 0, none⟩) DL.length cD) DL DP DQ
 ln : LC wr (w.heap.size + 3) (.slice (some ⟨gN, 0, none⟩) NL.length cN) NL NP NQ
 fd : FR wr (w.heap.size + 3) vr1 DU
 fn : FR wr (w.heap.size + 3) vr2 NU
 h1 : w.heap.size + 3 ≤ t1
 h2 : w.heap.size + 3 ≤ t2
 h12 : t1 ≠ t2
 sd : gD ≠ t1 ∧ gD ≠ t2 ∧ gD ≠ gN
 sn : gN ≠ t1 ∧ gN ≠ t2
 s1 : ∀ b, vr1.ownBlock = some b → b ≠ t1 ∧ b ≠ t2 ∧ b ≠ gN
 s2 : ∀ b, vr2.ownBlock = some b → b ≠ t1 ∧ b ≠ t2 ∧ b ≠ gN
 pd : ∀ i, i < DL.length → DP i ≠ t1 ∧ DP i ≠ t2
 pn : ∀ i, i < NL.length → NP i ≠ t1 ∧ NP i ≠ t2
section
variable {w wr w1 : World} {t1 t2 : Nat} {va0 va1 : Value} {gD cD : Nat} {DL : List Lf} {DP DQ : Nat → Nat} {vr1 : Value} {DU : List Rn} {gN cN : Nat} {NL : List Lf} {NP NQ : Nat → Nat} {vr2 : Value} {NU : List Rn}
theorem CS.below (h : CS w wr t1 t2 va0 va1 gD cD DL DP DQ vr1 DU gN cN NL NP NQ vr2 NU) (hb : Below wr.heap.size wr w1) : CS w w1 t1 t2 va0 va1 gD cD DL DP DQ vr1 DU gN cN NL NP NQ vr2 NU :=
 ⟨h.low.trans (hb.mono h.low.size), h.a.below hb h.a.lt, h.r1.below hb h.r1.lt, h.r2.below hb h.r2.lt, h.d.below hb h.d.lt, h.n.below hb h.n.lt, h.ld.below hb, h.ln.below hb, h.fd.below hb, h.fn.below hb, h.h1, h.h2, h.h12, h.sd, h.sn, h.s1, h.s2, h.pd, h.pn⟩
theorem ob_some {a b : Nat} {n c : Nat} (h : a ≠ b) : (Value.slice (some ⟨a, 0, none⟩) n c).ownBlock ≠ some b := fun e => h (by simpa [Value.ownBlock] using e)
theorem CS.setD1 {v : Value} {U : List Rn} (h : CS w wr t1 t2 va0 va1 gD cD DL DP DQ vr1 DU gN cN NL NP NQ vr2 NU) (hb : Below wr.heap.size wr w1) (hf : FR w1 wr.heap.size v U) : CS w (w1.setCell ⟨t1, 1, none⟩ v) t1 t2 va0 va1 gD cD DL DP DQ v U gN cN NL NP NQ vr2 NU := by
 have k := h.below hb
 have l1 := h.d.lt
 have l2 := h.n.lt
 have l3 := (h.ln.row.lt gN rfl).2
 have l4 := h.h1
 have nv : ∀ b, v.ownBlock = some b → wr.heap.size ≤ b := fun b e => (World.ownsRow.lt hf b e).1
 refine ⟨k.low.setCell (by show w.heap.size ≤ t1; omega) _, k.a.setAt _ _ (by show t1 ≠ w.heap.size; omega), k.r1.setAt _ _ (by show t1 ≠ w.heap.size + 1; omega), k.r2.setAt _ _ (by show t1 ≠ w.heap.size + 1 + 1; omega), k.d.set1 _, k.n.setAt _ _ h.h12, k.ld.set _ _ (ob_some h.sd.1) (fun i hi => (h.pd i hi).1), k.ln.set _ _ (ob_some h.sn.1) (fun i hi => (h.pn i hi).1), (hf.weak (by omega)).setFar _ _ (fun e => by have := nv _ e; have : wr.heap.size ≤ t1 := this; omega), k.fn.setFar _ _ (fun e => (h.s2 _ e).1 rfl), h.h1, h.h2, h.h12, h.sd, h.sn, fun b e => ?_, h.s2, h.pd, h.pn⟩
 have := nv b e
 exact ⟨by omega, by omega, by omega⟩
theorem CS.setN1 {v : Value} {U : List Rn} (h : CS w wr t1 t2 va0 va1 gD cD DL DP DQ vr1 DU gN cN NL NP NQ vr2 NU) (hb : Below wr.heap.size wr w1) (hf : FR w1 wr.heap.size v U) : CS w (w1.setCell ⟨t2, 1, none⟩ v) t1 t2 va0 va1 gD cD DL DP DQ vr1 DU gN cN NL NP NQ v U := by
 have k := h.below hb
 have l1 := h.d.lt
 have l2 := h.n.lt
 have l3 := (h.ln.row.lt gN rfl).2
 have l4 := h.h2
 have nv : ∀ b, v.ownBlock = some b → wr.heap.size ≤ b := fun b e => (World.ownsRow.lt hf b e).1
 refine ⟨k.low.setCell (by show w.heap.size ≤ t2; omega) _, k.a.setAt _ _ (by show t2 ≠ w.heap.size; omega), k.r1.setAt _ _ (by show t2 ≠ w.heap.size + 1; omega), k.r2.setAt _ _ (by show t2 ≠ w.heap.size + 1 + 1; omega), k.d.setAt _ _ (Ne.symm h.h12), k.n.set1 _, k.ld.set _ _ (ob_some h.sd.2.1) (fun i hi => (h.pd i hi).2), k.ln.set _ _ (ob_some h.sn.2) (fun i hi => (h.pn i hi).2), k.fd.setFar _ _ (fun e => (h.s1 _ e).2.1 rfl), (hf.weak (by omega)).setFar _ _ (fun e => by have := nv _ e; have : wr.heap.size ≤ t2 := this; omega), h.h1, h.h2, h.h12, h.sd, h.sn, h.s1, fun b e => ?_, h.pd, h.pn⟩
 have := nv b e
 exact ⟨by omega, by omega, by omega⟩
theorem lc_box {g n c : Nat} {l : List Lf} {P Q : Nat → Nat} {lo t : Nat} {n0 c0 : Nat} {a0 : Option Addr} {u : Value} (h : LC w lo (.slice (some ⟨g, 0, none⟩) n c) l P Q) (hp : ∀ i, i < l.length → 1 ≤ (gL l i).p.length) (hb : Bx2 w t (.slice a0 n0 c0) u) : ∀ i, i < l.length → P i ≠ t := fun i hi e => by
 have hw := (h.pt i hi).2.2.2.1.cell (i := 0) (by have := hp i hi; omega)
 rw [e, hb.c0] at hw
 cases hw
theorem CS.setD0 {g2 c2 n2 : Nat} {l2 : List Lf} {P2 Q2 : Nat → Nat} (h : CS w wr t1 t2 va0 va1 gD cD DL DP DQ vr1 DU gN cN NL NP NQ vr2 NU) (hb : Below wr.heap.size wr w1) (hl : LC w1 (w.heap.size + 3) (.slice (some ⟨g2, 0, none⟩) n2 c2) l2 P2 Q2) (hn : n2 = l2.length) (hg : wr.heap.size ≤ g2) (hp : ∀ i, i < l2.length → 1 ≤ (gL l2 i).p.length) : CS w (w1.setCell ⟨t1, 0, none⟩ (.slice (some ⟨g2, 0, none⟩) n2 c2)) t1 t2 va0 va1 g2 c2 l2 P2 Q2 vr1 DU gN cN NL NP NQ vr2 NU := by
 subst hn
 have k := h.below hb
 have l1 := h.d.lt
 have l3 := h.n.lt
 have l5 := (h.ln.row.lt gN rfl).2
 have l4 := h.h1
 have q1 := lc_box hl hp k.d
 have q2 := lc_box hl hp k.n
 exact ⟨k.low.setCell (by show w.heap.size ≤ t1; omega) _, k.a.setAt _ _ (by show t1 ≠ w.heap.size; omega), k.r1.setAt _ _ (by show t1 ≠ w.heap.size + 1; omega), k.r2.setAt _ _ (by show t1 ≠ w.heap.size + 1 + 1; omega), k.d.set0 _, k.n.setAt _ _ h.h12, hl.set _ _ (ob_some (show g2 ≠ t1 by omega)) q1, k.ln.set _ _ (ob_some h.sn.1) (fun i hi => (h.pn i hi).1), k.fd.setFar _ _ (fun e => (h.s1 _ e).1 rfl), k.fn.setFar _ _ (fun e => (h.s2 _ e).1 rfl), h.h1, h.h2, h.h12, ⟨by omega, by omega, by omega⟩, h.sn, h.s1, h.s2, fun i hi => ⟨q1 i hi, q2 i hi⟩, h.pn⟩
theorem CS.setN0 {g2 c2 n2 : Nat} {l2 : List Lf} {P2 Q2 : Nat → Nat} (h : CS w wr t1 t2 va0 va1 gD cD DL DP DQ vr1 DU gN cN NL NP NQ vr2 NU) (hb : Below wr.heap.size wr w1) (hl : LC w1 (w.heap.size + 3) (.slice (some ⟨g2, 0, none⟩) n2 c2) l2 P2 Q2) (hn : n2 = l2.length) (hg : wr.heap.size ≤ g2) (hp : ∀ i, i < l2.length → 1 ≤ (gL l2 i).p.length) : CS w (w1.setCell ⟨t2, 0, none⟩ (.slice (some ⟨g2, 0, none⟩) n2 c2)) t1 t2 va0 va1 gD cD DL DP DQ vr1 DU g2 c2 l2 P2 Q2 vr2 NU := by
 subst hn
 have k := h.below hb
 have l1 := h.d.lt
 have l3 := h.n.lt
 have l5 := (h.ld.row.lt gD rfl).2
 have l4 := h.h2
 have q1 := lc_box hl hp k.d
 have q2 := lc_box hl hp k.n
 refine ⟨k.low.setCell (by show w.heap.size ≤ t2; omega) _, k.a.setAt _ _ (by show t2 ≠ w.heap.size; omega), k.r1.setAt _ _ (by show t2 ≠ w.heap.size + 1; omega), k.r2.setAt _ _ (by show t2 ≠ w.heap.size + 1 + 1; omega), k.d.setAt _ _ (Ne.symm h.h12), k.n.set0 _, k.ld.set _ _ (ob_some h.sd.2.1) (fun i hi => (h.pd i hi).2), hl.set _ _ (ob_some (show g2 ≠ t2 by omega)) q2, k.fd.setFar _ _ (fun e => (h.s1 _ e).2.1 rfl), k.fn.setFar _ _ (fun e => (h.s2 _ e).2.1 rfl), h.h1, h.h2, h.h12, ⟨h.sd.1, h.sd.2.1, by omega⟩, ⟨by omega, by omega⟩, fun b e => ?_, fun b e => ?_, h.pd, fun i hi => ⟨q1 i hi, q2 i hi⟩⟩
 ·have := (World.ownsRow.lt h.fd b e).2
  exact ⟨(h.s1 b e).1, (h.s1 b e).2.1, by omega⟩
 ·have := (World.ownsRow.lt h.fn b e).2
  exact ⟨(h.s2 b e).1, (h.s2 b e).2.1, by omega⟩
theorem CS.appN {y : Lf} {p pc : Nat} (h : CS w wr t1 t2 va0 va1 gD cD [] DP DQ vr1 DU gN cN NL NP NQ vr2 NU) (hb : Below wr.heap.size wr w1) (hk : NL.length ≤ 1048576) (hy : 1 ≤ y.p.length) (hp : ∀ i, i < NL.length → 1 ≤ (gL NL i).p.length) (hp1 : wr.heap.size ≤ p) (hp2 : p < w1.heap.size) (hw : Wr w1 p 9 y.p.length (fun t => .string (gS y.p t))) (hpc : y.p.length ≤ pc ∧ pc ≤ 9223372036854775807) :
  ∃ q' cap' w3, (Builtin.append_ #[31, 31] 31 #[.slice (some ⟨gN, 0, none⟩) NL.length cN, .slice (some ⟨w1.heap.size, 0, none⟩) 1 1]).run Tryz.prog (w1.alloc (.cells #[.slice (some ⟨p, 0, none⟩) y.p.length pc, .bool y.fl, .int .i64 y.r, .int .i64 y.q, .string y.v] 57)) = .ok (.slice (some ⟨q', 0, none⟩) (NL.length + 1) cap') w3 ∧ Below w.heap.size w w3 ∧ Bx2 w3 w.heap.size va0 va1 ∧ Bx2 w3 t2 (.slice (some ⟨gN, 0, none⟩) NL.length cN) vr2 ∧
   ∃ P' Q', CS w (w3.setCell ⟨t2, 0, none⟩ (.slice (some ⟨q', 0, none⟩) (NL.length + 1) cap')) t1 t2 va0 va1 gD cD [] DP DQ vr1 DU q' cap' (NL ++ [y]) P' Q' vr2 NU := by
 have k := h.below hb
 have hz := h.low.size
 have hz1 := hb.size
 have l1 := h.d.lt
 have l2 := h.n.lt
 have l3 := h.a.lt
 have l4 := h.r1.lt
 have l5 := h.r2.lt
 have l6 := h.ln.row.lt gN rfl
 have l7 := h.ld.row.lt gD rfl
 have h1 := h.h1
 have h2 := h.h2
 obtain ⟨q', cap', w3, happ, lc3, g3⟩ := h.ln.app hb (by omega) hk y p pc (by omega) hp2 (fun e => by simp [Value.ownBlock] at e; omega) hw hpc
 have hq : q' = gN ∨ w1.heap.size ≤ q' := by
  rcases g3.l with e | ⟨b, e, hb'⟩
  ·exact .inl (by simpa [Value.ownBlock] using e)
  ·have e3 : q' = b := by simpa [Value.ownBlock] using e
   exact .inr (by omega)
 have hq3 := (lc3.row.lt q' rfl).2
 have row : ∀ b, (Value.slice (some ⟨gN, 0, none⟩) NL.length cN).ownBlock = some b → b = gN := fun b e => by
  have : gN = b := by simpa [Value.ownBlock] using e
  exact this.symm
 have bx : ∀ {b : Nat} {u0 u1 : Value}, Bx2 w1 b u0 u1 → b ≠ gN → Bx2 w3 b u0 u1 := fun hB hne => hB.gr g3.g (fun b e => by rw [row b e]; exact fun e2 => hne e2.symm)
 have A3 := bx k.a (by omega)
 have R13 := bx k.r1 (by omega)
 have R23 := bx k.r2 (by omega)
 have D3 := bx k.d (fun e => h.sn.1 e.symm)
 have N3 := bx k.n (fun e => h.sn.2 e.symm)
 have FD3 : FR w3 (w.heap.size + 3) vr1 DU := k.fd.gr g3.g (fun b e e2 => (h.s1 b e).2.2 (row b e2.symm))
 have FN3 : FR w3 (w.heap.size + 3) vr2 NU := k.fn.gr g3.g (fun b e e2 => (h.s2 b e).2.2 (row b e2.symm))
 have LD3 : LC w3 (w.heap.size + 3) (.slice (some ⟨gD, 0, none⟩) ([] : List Lf).length cD) [] DP DQ := ⟨own_at5 k.ld.row (fun b e => by
  have e : gD = b := by simpa [Value.ownBlock] using e
  subst e
  exact g3.g.block gD (by omega) (fun e2 => h.sd.2.2 (row gD e2.symm))), fun i hi => by simp at hi⟩
 have low3 : Below w.heap.size w w3 := k.low.grown g3.g k.low.size (fun b e => by rw [row b e]; omega)
 have hpy : ∀ i, i < (NL ++ [y]).length → 1 ≤ (gL (NL ++ [y]) i).p.length := fun i hi => by
  by_cases e : i = NL.length
  ·rw [e, gL_end]; exact hy
  ·have hi' : i < NL.length := by simp at hi; omega
   rw [gL_pre NL y hi']; exact hp i hi'
 have q1 := lc_box lc3 hpy D3
 have q2 := lc_box lc3 hpy N3
 have hqt : q' ≠ t1 ∧ q' ≠ t2 ∧ gD ≠ q' := by
  rcases hq with e | e
  ·rw [e]; exact ⟨h.sn.1, h.sn.2, h.sd.2.2⟩
  ·exact ⟨by omega, by omega, by omega⟩
 have hln : NL.length + 1 = (NL ++ [y]).length := by simp
 refine ⟨q', cap', w3, happ, low3, A3, N3, (fun i => if i = NL.length then p else NP i), (fun i => if i = NL.length then pc else NQ i), ?_⟩
 rw [hln] at lc3 ⊢
 refine ⟨low3.setCell (by show w.heap.size ≤ t2; omega) _, A3.setAt _ _ (by show t2 ≠ w.heap.size; omega), R13.setAt _ _ (by show t2 ≠ w.heap.size + 1; omega), R23.setAt _ _ (by show t2 ≠ w.heap.size + 1 + 1; omega), D3.setAt _ _ (Ne.symm h.h12), N3.set0 _, LD3.set _ _ (ob_some h.sd.2.1) (fun i hi => by simp at hi), lc3.set _ _ (ob_some hqt.2.1) q2, FD3.setFar _ _ (fun e => (h.s1 _ e).2.1 rfl), FN3.setFar _ _ (fun e => (h.s2 _ e).2.1 rfl), h.h1, h.h2, h.h12, ⟨h.sd.1, h.sd.2.1, hqt.2.2⟩, ⟨hqt.1, hqt.2.1⟩, fun b e => ⟨(h.s1 b e).1, (h.s1 b e).2.1, ?_⟩, fun b e => ⟨(h.s2 b e).1, (h.s2 b e).2.1, ?_⟩, fun i hi => by simp at hi, fun i hi => ⟨q1 i hi, q2 i hi⟩⟩
 ·have := (World.ownsRow.lt h.fd b e).2
  rcases hq with e2 | e2
  ·rw [e2]; exact (h.s1 b e).2.2
  ·omega
 ·have := (World.ownsRow.lt h.fn b e).2
  rcases hq with e2 | e2
  ·rw [e2]; exact (h.s2 b e).2.2
  ·omega
end
end Go.Proofs.YtcbcabhjododoaaGreat
