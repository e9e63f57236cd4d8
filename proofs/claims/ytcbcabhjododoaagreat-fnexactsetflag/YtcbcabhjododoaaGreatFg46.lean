import Derived.Test.YtcbcabhjododoaaGreatFg45
import Derived.Test.YtcbcabhjododoaaGreatFg44
import Derived.Test.YtcbcabhjododoaaGreatFg39
set_option linter.unusedVariables false
set_option linter.unusedSimpArgs false
set_option maxRecDepth 100000
set_option maxHeartbeats 40000000
namespace Go.Proofs.YtcbcabhjododoaaGreat
open Go.ChangeShapes Go.WideShapes Go.ChangeAt Go.RowKit Go.Maps
def seP (S : Sx) (rep : Int) (p : List ByteArray) (fl on : Bool) (v : ByteArray) : List Lf := if on then [nxY S rep p fl v] else []
def seOk (S : Sx) (rep : Int) (on : Bool) : Prop := (0 ≤ rep ∧ rep < 8) ∧ (on = true → topK S.R S.T rep S.n + 1 ≤ 1000000000)
noncomputable def seD (S : Sx) (rep : Int) (p : List ByteArray) (fl on : Bool) (v : ByteArray) : Sx := dlS (gnS p fl) S.l (seP S rep p fl on v)
noncomputable def seC (S : Sx) (rep : Int) (p : List ByteArray) (fl on : Bool) (v : ByteArray) : Int := if ocC S p v = 0 then (if yes (seOk S rep on) = true then chC S (seD S rep p fl on v) else 3) else ocC S p v
noncomputable def seX (S : Sx) (rep : Int) (p : List ByteArray) (fl on : Bool) (v : ByteArray) : Sx := if ocC S p v = 0 then (if yes (seOk S rep on) = true then chX S (seD S rep p fl on v) else Sx.mt) else Sx.mt
noncomputable def seY (S : Sx) (rep : Int) (p : List ByteArray) (fl on : Bool) (v : ByteArray) : Sx := if ocC S p v = 0 then (if yes (seOk S rep on) = true then chY S (seD S rep p fl on v) else Sx.mt) else Sx.mt
section
variable {S : Sx} {rep : Int} {p : List ByteArray} {fl on : Bool} {v : ByteArray}
theorem se_n (h : ocC S p v ≠ 0) : seX S rep p fl on v = Sx.mt ∧ seY S rep p fl on v = Sx.mt ∧ seC S rep p fl on v = ocC S p v := by unfold seX seY seC; rw [if_neg h, if_neg h, if_neg h]; exact ⟨rfl, rfl, rfl⟩
theorem se_3 (h : ocC S p v = 0) (hn : ¬ seOk S rep on) : seX S rep p fl on v = Sx.mt ∧ seY S rep p fl on v = Sx.mt ∧ seC S rep p fl on v = 3 := by unfold seX seY seC; rw [if_pos h, if_pos h, if_pos h, yes_f hn]; exact ⟨rfl, rfl, rfl⟩
theorem se_t (h : ocC S p v = 0) (hn : seOk S rep on) : seX S rep p fl on v = chX S (seD S rep p fl on v) ∧ seY S rep p fl on v = chY S (seD S rep p fl on v) ∧ seC S rep p fl on v = chC S (seD S rep p fl on v) := by unfold seX seY seC; rw [if_pos h, if_pos h, if_pos h, yes_t hn]; exact ⟨rfl, rfl, rfl⟩
theorem se_pto (hs : StOk S.R S.F S.T S.n S.l) (hp : PthOk p) (hv : v.size ≤ 200) (hf : fl = true → emB v = true) (h : seOk S rep on) : PtO S (seP S rep p fl on v) := by
 unfold seP
 cases on with
 | true => exact nx_pto hs hp hv hf ⟨h.1, h.2 rfl⟩
 | false => exact PtO.nil S
theorem next_ok (hs : StOk S.R S.F S.T S.n S.l) : nextOk S.R S.F S.T rep S.n = yes (nxOk S rep) := by
 have hb := topK_bd hs.1 rep
 have e : nextOk S.R S.F S.T rep S.n = runOkB rep (topK S.R S.T rep S.n + 1) (topK S.R S.T rep S.n + 1) := by unfold nextOk; rw [hs.1]; rfl
 rw [e]
 by_cases h : nxOk S rep
 ·rw [yes_t h]; exact runOk_true ⟨h.1.1, h.1.2, by omega, by omega, h.2⟩
 ·rw [yes_f h]; exact runOk_false (fun hh => h ⟨⟨hh.1, hh.2.1⟩, by omega⟩)
end
theorem leafApp1 (B : Nat) (w : World) (g0 : Nat) (pa : Option Addr) (m pc : Nat) (fl : Bool) (r q : Int) (v : ByteArray) (h : w.ownsRow B 57 5 (.slice (some ⟨g0, 0, none⟩) 0 0) 0 []) (hB : B ≤ w.heap.size) :
  ∃ g c w', (Builtin.append_ #[31, 31] 31 #[.slice (some ⟨g0, 0, none⟩) 0 0, .slice (some ⟨w.heap.size, 0, none⟩) 1 1]).run Tryz.prog (w.alloc (.cells #[.slice pa m pc, .bool fl, .int .i64 r, .int .i64 q, .string v] 57)) = .ok (.slice (some ⟨g, 0, none⟩) 1 c) w' ∧ Below B w w' ∧ g < w'.heap.size ∧ w'.cell? ⟨g, 0, none⟩ = some (.slice pa m pc) ∧ w'.cell? ⟨g, 1, none⟩ = some (.bool fl) ∧ w'.cell? ⟨g, 2, none⟩ = some (.int .i64 r) ∧ w'.cell? ⟨g, 3, none⟩ = some (.int .i64 q) ∧ w'.cell? ⟨g, 4, none⟩ = some (.string v) := by
 obtain ⟨i0, hi, hz0, hz1, hz2⟩ := info_parts infoLeaf
 have b2 : Below w.heap.size w (w.alloc (.cells #[.slice pa m pc, .bool fl, .int .i64 r, .int .i64 q, .string v] 57)) := (Below.refl _ _).alloc (Nat.le_refl _) _
 have h2 := World.ownsRow.alloc h (.cells #[.slice pa m pc, .bool fl, .int .i64 r, .int .i64 q, .string v] 57)
 have hn5 := cell_five_new w (.slice pa m pc) (.bool fl) (.int .i64 r) (.int .i64 q) (.string v) 57
 obtain ⟨W2, hW2⟩ : ∃ W2, w.alloc (.cells #[.slice pa m pc, .bool fl, .int .i64 r, .int .i64 q, .string v] 57) = W2 := ⟨_, rfl⟩
 rw [hW2] at h2 hn5 b2 ⊢
 have hz : W2.heap.size = w.heap.size + 1 := by rw [← hW2]; simp
 obtain ⟨v', w3, hr, g2, g3, g4, g5⟩ := run_append_own_at (P := Tryz.prog) W2 B 31 31 57 i0 _ 5 64 Tryz.underlying31 hi hz0 hz1 hz2 rfl (by decide) (.slice (some ⟨g0, 0, none⟩) 0 0) 0 [] h2 ⟨w.heap.size, 0, none⟩ 1 1 [.slice pa m pc, .bool fl, .int .i64 r, .int .i64 q, .string v] rfl hn5 (fun u hu => by
  simp only [List.mem_cons, List.not_mem_nil, or_false] at hu
  rcases hu with e | e | e | e | e <;> rw [e] <;> rfl) (by unfold maxLen; omega) (by omega) (by omega)
 rcases g2.2 with ⟨hv, h0⟩ | ⟨g, cap, cur, hv, hb, hh, r1, r2, r3, r4⟩
 ·omega
 subst hv
 have hc : ∀ j, j < 5 → w3.cell? ⟨g, j, none⟩ = ([.slice pa m pc, .bool fl, .int .i64 r, .int .i64 q, .string v] : List Value)[j]? := fun j hj => World.ownsRow.cellAt g2 j (by omega)
 refine ⟨g, cap, w3, hr, ?_, (Array.getElem?_eq_some_iff.1 hh).1, hc 0 (by omega), hc 1 (by omega), hc 2 (by omega), hc 3 (by omega), hc 4 (by omega)⟩
 exact (b2.mono hB).grown g3 (by omega) (fun k hk => (World.ownsRow.lt h2 k hk).1)
theorem l3SetC (a : Option Addr) (c xg xo d : Nat) (pa : Option Addr) (pc : Nat) (S : Sx) (rep : Int) (p : List ByteArray) (fl on : Bool) (v : ByteArray) (w : World) (hm : S.Sm) (hT : I64 S.T) (h1 : LCap w a S.l) (h3 : RSeg w (some ⟨xg, xo, none⟩) S.n S.R S.F S.T) (hp : p.length ≤ 1048576) (hpc : p.length ≤ pc ∧ pc ≤ 9223372036854775807) (hseg : SSeg w pa p) (hv : v.size ≤ 1048576) (hfv : fl = true → emB v = true) :
  Calls Tryz.prog 38 #[.agg #[.slice a S.l.length c, .slice (some ⟨xg, xo, none⟩) S.n d], .int .i64 rep, .slice pa p.length pc, .bool fl, .bool on, .string v] w fun e w' => ∃ a m x t a' m' x' t', e = .returned (.tuple #[.agg #[.slice a (seX S rep p fl on v).l.length m, .slice x (seX S rep p fl on v).n t], .agg #[.slice a' (seY S rep p fl on v).l.length m', .slice x' (seY S rep p fl on v).n t'], .int .i64 (seC S rep p fl on v)]) ∧ SNc w' w.heap.size a x (seX S rep p fl on v) ∧ SNc w' w.heap.size a' x' (seY S rep p fl on v) ∧ Below w.heap.size w w' := by
 obtain ⟨W, hW⟩ : ∃ W, ((w.alloc (.cells #[.slice a S.l.length c, .slice (some ⟨xg, xo, none⟩) S.n d] 36)).alloc (.cells #[.slice none 0 0, .slice none 0 0] 36)).alloc (.cells #[.slice none 0 0, .slice none 0 0] 36) = W := ⟨_, rfl⟩
 have b0 : Below w.heap.size w W := by rw [← hW]; exact (below2 _ _ _).alloc (by simp; omega) _
 have zW : W.heap.size = w.heap.size + 3 := by rw [← hW]; simp
 have A0 : Bx2 W w.heap.size (.slice a S.l.length c) (.slice (some ⟨xg, xo, none⟩) S.n d) := by rw [← hW]; exact ((Bx2.made w _ _ _).allocs _).allocs _
 have R0 : Bx2 W (w.heap.size + 1) (.slice none 0 0) (.slice none 0 0) := by
  rw [← hW]
  have := Bx2.made (w.alloc (.cells #[.slice a S.l.length c, .slice (some ⟨xg, xo, none⟩) S.n d] 36)) (.slice none 0 0) (.slice none 0 0) 36
  exact (by simpa using this : Bx2 _ (w.heap.size + 1) _ _).allocs _
 have Q0 : Bx2 W (w.heap.size + 1 + 1) (.slice none 0 0) (.slice none 0 0) := by
  rw [← hW]
  simpa using Bx2.made ((w.alloc (.cells #[.slice a S.l.length c, .slice (some ⟨xg, xo, none⟩) S.n d] 36)).alloc (.cells #[.slice none 0 0, .slice none 0 0] 36)) (.slice none 0 0) (.slice none 0 0) 36
 have HA0 := hid A0
 have HR0 := hid R0
 have HQ0 := hid Q0
 have HB0 := hid b0
 have HZW := hid zW
 have k0 := A0.c0
 have k1 := A0.c1
 have HOK := hid (specStateOk a c S.l (some ⟨xg, xo, none⟩) S.n d S.R S.F S.T W hm.l1 hm.p1 hm.n1 (h1.below b0) (h3.below b0))
 change Hid (Calls _ _ _ _ fun e w' => e = .returned (.bool (stB S)) ∧ _) at HOK
 have H1 := hid h1
 have H3 := hid h3
 have HSG := hid hseg
 have HPC := hid hpc
 have HFV := hid hfv
 have HN1 := hid hm.n1
 obtain ⟨B, hB⟩ : ∃ B, stB S = B := ⟨_, rfl⟩
 have HSB := hid hB
 rw [hB] at HOK
 clear b0 zW A0 R0 Q0 h1 h3 hseg hB hpc hfv
 go_enter Tryz.func38, Tryz.ntmps38
 go_wp2_with fail
 try rw [hW]
 clear hW
 refine HOK.out.mono ?_
 rintro e w1 ⟨rfl, b1⟩
 have HBB := hid (keepS HB0.out b1)
 have HRR1 := hid (HR0.out.below b1 HR0.out.lt)
 have HRR2 := hid (HQ0.out.below b1 HQ0.out.lt)
 have HA1 := hid (HA0.out.below b1 HA0.out.lt)
 have HZ1 : Hid (w.heap.size + 3 ≤ w1.heap.size) := hid (by have := HZW.out; have := b1.size; omega)
 clear b1 k0 k1 HOK
 cases B with
 | false =>
  have HZ : Hid (seX S rep p fl on v = Sx.mt ∧ seY S rep p fl on v = Sx.mt ∧ seC S rep p fl on v = 1) := hid (by
   have e := ocC_1 (p := p) (v := v) HSB.out
   have := se_n (S := S) (rep := rep) (p := p) (fl := fl) (on := on) (v := v) (by rw [e]; decide)
   rw [e] at this; exact this)
  have TB := twoB HRR1.out HRR2.out (show w.heap.size + 1 ≠ w.heap.size + 1 + 1 by omega) (.slice none 0 0) (.slice none 0 0) (.slice none 0 0) (.slice none 0 0)
  have r0 := HRR1.out.c0
  have r1 := HRR1.out.c1
  have rf := HRR1.out.f
  have q0 := TB.1.c0
  have q1 := TB.1.c1
  have qf := TB.1.f
  have HTW := hid TB.2
  clear TB
  go_wp2_with fail
  obtain ⟨X1, X2⟩ := HTW.out
  refine bodyPost_ret (v := .tuple #[.agg #[.slice none 0 0, .slice none 0 0], .agg #[.slice none 0 0, .slice none 0 0], .int .i64 1]) (by simp [results, Tryz.results38, go_sem, X1.c0, X1.c1, X2.c0, X2.c1]) rfl ?_
  rw [HZ.out.1, HZ.out.2.1, HZ.out.2.2]
  have G3 := below4 HBB.out (show w.heap.size ≤ w.heap.size + 1 by omega) (show w.heap.size ≤ w.heap.size + 1 + 1 by omega) (.slice none 0 0) (.slice none 0 0) (.slice none 0 0) (.slice none 0 0)
  first
   | exact ⟨none, 0, none, 0, none, 0, none, 0, rfl, SNc.mt _ _ _ _, SNc.mt _ _ _ _, G3⟩
   | exact ⟨none, 0, none, 0, none, 0, none, ⟨0, rfl⟩, SNc.mt _ _ _ _, SNc.mt _ _ _ _, G3⟩
 | true =>
  have HPS := hid (pathSpec p pa pc w1 hp (HSG.out.below HBB.out))
  obtain ⟨Z, hZ⟩ : ∃ Z, yes (PthOk p) = Z := ⟨_, rfl⟩
  rw [hZ] at HPS
  have HZp := hid hZ
  clear hZ
  go_wp2_with fail
  refine HPS.out.mono ?_
  rintro e w2 ⟨rfl, rfl⟩
  clear HPS
  cases Z with
  | false =>
   have HZ : Hid (seX S rep p fl on v = Sx.mt ∧ seY S rep p fl on v = Sx.mt ∧ seC S rep p fl on v = 2) := hid (by
    have e := ocC_2 (p := p) (v := v) HSB.out (fun h => by have := HZp.out; rw [yes_t h.1] at this; cases this)
    have := se_n (S := S) (rep := rep) (p := p) (fl := fl) (on := on) (v := v) (by rw [e]; decide)
    rw [e] at this; exact this)
   have TB := twoB HRR1.out HRR2.out (show w.heap.size + 1 ≠ w.heap.size + 1 + 1 by omega) (.slice none 0 0) (.slice none 0 0) (.slice none 0 0) (.slice none 0 0)
   have r0 := HRR1.out.c0
   have r1 := HRR1.out.c1
   have rf := HRR1.out.f
   have q0 := TB.1.c0
   have q1 := TB.1.c1
   have qf := TB.1.f
   have HTW := hid TB.2
   clear TB
   go_wp2_with fail
   obtain ⟨X1, X2⟩ := HTW.out
   refine bodyPost_ret (v := .tuple #[.agg #[.slice none 0 0, .slice none 0 0], .agg #[.slice none 0 0, .slice none 0 0], .int .i64 2]) (by simp [results, Tryz.results38, go_sem, X1.c0, X1.c1, X2.c0, X2.c1]) rfl ?_
   rw [HZ.out.1, HZ.out.2.1, HZ.out.2.2]
   have G3 := below4 HBB.out (show w.heap.size ≤ w.heap.size + 1 by omega) (show w.heap.size ≤ w.heap.size + 1 + 1 by omega) (.slice none 0 0) (.slice none 0 0) (.slice none 0 0) (.slice none 0 0)
   first
    | exact ⟨none, 0, none, 0, none, 0, none, 0, rfl, SNc.mt _ _ _ _, SNc.mt _ _ _ _, G3⟩
    | exact ⟨none, 0, none, 0, none, 0, none, ⟨0, rfl⟩, SNc.mt _ _ _ _, SNc.mt _ _ _ _, G3⟩
  | true =>
   by_cases hvs : v.size ≤ 200
   ·have i0 : ¬ (v.size : Int) > 200 := by omega
    have hpo := yes_iff.1 HZp.out
    have hs := stB_t HSB.out
    have HS0 := hid hs
    have HPO := hid hpo
    have HVS := hid hvs
    have HO0 := hid (ocC_0 (p := p) (v := v) HSB.out ⟨hpo, hvs⟩)
    have HND := hid (specNext (some ⟨xg, xo, none⟩) S.n d S.R S.F S.T rep w2 HN1.out (H3.out.below HBB.out) hT)
    rw [next_ok hs] at HND
    have l1 := HA1.out.c1
    have hl1 : S.l.length ≤ 1000 := hs.2.1
    clear hpo hs hvs
    go_wp2_with fail
    refine HND.out.mono ?_
    rintro e w3 ⟨hy, hno, b3⟩
    clear HND l1
    obtain ⟨dr, dq, ok, he, hok, hdq⟩ : ∃ dr dq ok, e = .returned (.tuple #[.agg #[.int .i64 dr, .int .i64 dq], .bool ok]) ∧ ok = yes (nxOk S rep) ∧ (ok = true → dr = rep ∧ dq = topK S.R S.T rep S.n + 1) := by
     cases hk : yes (nxOk S rep) with
     | true => exact ⟨rep, topK S.R S.T rep S.n + 1, true, hy hk, rfl, fun _ => ⟨rfl, rfl⟩⟩
     | false => exact ⟨0, 0, false, hno hk, rfl, fun h => by cases h⟩
    clear hy hno
    subst he
    have HOKB := hid hok
    have HDQ := hid hdq
    clear hok hdq
    obtain ⟨u4, hu4⟩ : ∃ u4, w3.alloc (.cells #[.int .i64 dr, .int .i64 dq] 55) = u4 := ⟨_, rfl⟩
    have b4 : Below w3.heap.size w3 u4 := by rw [← hu4]; exact (Below.refl _ _).alloc (Nat.le_refl _) _
    have HD4 : Hid (Bx2 u4 w3.heap.size (.int .i64 dr) (.int .i64 dq)) := hid (by rw [← hu4]; exact Bx2.made _ _ _ _)
    have HB24 := hid (keepS b3 b4)
    clear b3 b4
    by_cases hsk : seOk S rep on
    ·have HSO := hid hsk
     have hr1 : 0 ≤ rep := hsk.1.1
     have hr2 : rep < 8 := hsk.1.2
     have hr3 : ¬ rep < 0 := by omega
     have hr4 : ¬ 8 ≤ rep := by omega
     have HZr := hid (se_t (S := S) (rep := rep) (p := p) (fl := fl) (on := on) (v := v) HO0.out hsk)
     cases on with
     | true =>
      obtain rfl : ok = true := by rw [HOKB.out]; exact yes_t ⟨hsk.1, hsk.2 rfl⟩
      obtain ⟨e1, e2⟩ := HDQ.out rfl
      subst e1
      have HYE : Hid (nxY S dr p fl v = ⟨p, fl, dr, dq, v⟩) := hid (by unfold nxY; rw [← e2])
      have HSD : Hid (seD S dr p fl true v = dlS (gnS p fl) S.l [⟨p, fl, dr, dq, v⟩]) := hid (by unfold seD seP; rw [if_pos rfl, HYE.out])
      have HPT : Hid (PtO S [⟨p, fl, dr, dq, v⟩]) := hid (by rw [← HYE.out]; exact nx_pto HS0.out HPO.out HVS.out HFV.out ⟨hsk.1, hsk.2 rfl⟩)
      clear hsk e2
      have HA4 := hid (HA1.out.below HB24.out HA1.out.lt)
      have HB4 := hid (keepS HBB.out HB24.out)
      obtain ⟨w5, hw5⟩ : ∃ w5, u4.alloc (.cells #[] 4) = w5 := ⟨_, rfl⟩
      have b5 : Below u4.heap.size u4 w5 := by rw [← hw5]; exact (Below.refl _ _).alloc (Nat.le_refl _) _
      have HG0 : Hid (BR w5 u4.heap.size (.slice (some ⟨u4.heap.size, 0, none⟩) 0 0) (gnB (gnS p fl) S.l 0)) := hid (by rw [← hw5]; exact BR.new _)
      have HB5 := hid b5
      clear b5
      go_wp2_with fail
      try rw [hu4]
      try rw [hw5]
      clear hw5 hu4
      go_loopw [17, 18] (fun o i wr => ∃ k : Nat, k ≤ S.l.length ∧ i = .int .i64 k ∧ Hid (Below u4.heap.size u4 wr) ∧ Hid (BR wr u4.heap.size o (gnB (gnS p fl) S.l k))) (fun _ i _ => S.l.length - (intOf i).toNat)
      case atStart => exact ⟨0, Nat.zero_le _, rfl, HB5, HG0⟩
      case round =>
       clear HB5 HG0
       obtain ⟨k, hk, rfl, HB, HO⟩ := hrel
       have HLW := hid (keepS HB4.out HB.out)
       have A1 := HA4.out.below HB.out HA4.out.lt
       have k0 := A1.c0
       have k1 := A1.c1
       by_cases hlt : k < S.l.length
       ·have i1 : (0 : Int) ≤ (k : Int) := Int.natCast_nonneg _
        have i2 : (k : Int) < (S.l.length : Int) := by omega
        obtain ⟨ab, ao, rfl, hab, hcs⟩ := (H1.out).resolve_left (by omega)
        obtain ⟨qa, qc, ⟨c0, hcap⟩, sg, c1, c2, c3, c4⟩ := hcs k hlt
        have x0 := (HLW.out.cell (p := ⟨ab, ao + k * 5, none⟩) hab).trans c0
        have x1 := (HLW.out.cell (p := ⟨ab, ao + k * 5 + 1, none⟩) hab).trans c1
        have HC := hid (cmpSpec (gL S.l k).p p qa pa qc pc wr hcap.1 HPC.out.1 hcap.2 HPC.out.2 (sg.below HLW.out) (HSG.out.below HLW.out))
        have HPZ : Hid (cmpP (gL S.l k).p p = 0 ↔ (gL S.l k).p = p) := hid cmpP_z
        have HSTEP : Hid (gnB (gnS p fl) S.l (k + 1) = gnB (gnS p fl) S.l k ++ [yes ((gL S.l k).p = p ∧ (gL S.l k).fl = fl)]) := hid (gnB_succ hlt)
        obtain ⟨y, hy⟩ : ∃ y, gL S.l k = y := ⟨_, rfl⟩
        rw [hy] at x0 x1 HC HPZ HSTEP
        obtain ⟨lp, yf, yr, yq, yv⟩ := y
        dsimp only at x0 x1 HC HPZ HSTEP
        obtain ⟨C, hC⟩ : ∃ C, cmpP lp p = C := ⟨_, rfl⟩
        rw [hC] at HPZ HC
        clear hC hy hcs sg c0 c1 c2 c3 c4 hcap hab A1
        go_wp2_with fail
        refine HC.out.mono ?_
        rintro e w6 ⟨rfl, dn, hw6⟩
        have HB6 : Hid (Below u4.heap.size u4 w6) := hid (by rw [hw6]; exact below_drewS HB.out dn)
        have o6 : BR w6 u4.heap.size u17 (gnB (gnS p fl) S.l k) := by rw [hw6]; exact HO.out.below (below_drewS (Below.refl _ _) dn)
        have y1 : w6.cell? ⟨ab, ao + k * 5 + 1, none⟩ = some (.bool yf) := by rw [hw6]; simpa using x1
        have m0 : w6.cell? ⟨w.heap.size, 0, none⟩ = some (.slice (some ⟨ab, ao, none⟩) S.l.length c) := by rw [hw6]; simpa using k0
        have HAP : Hid (∀ bb, yes (lp = p ∧ yf = fl) = bb → ∃ v7 w7, (Builtin.append_ #[53, 53] 53 #[u17, .slice (some ⟨w6.heap.size, 0, none⟩) 1 1]).run Tryz.prog (w6.alloc (.cells #[.bool bb] 4)) = .ok v7 w7 ∧ BR w7 u4.heap.size v7 (gnB (gnS p fl) S.l (k + 1)) ∧ Below u4.heap.size u4 w7) := hid (fun bb hbb => by
         obtain ⟨v7, w7, h1, h2, h3⟩ := boolApp u4.heap.size w6 u17 (gnB (gnS p fl) S.l k) bb o6 HB6.out.size (by have := gnB_le (gnS p fl) S.l k; omega)
         exact ⟨v7, w7, h1, by rw [HSTEP.out, hbb]; exact h2, HB6.out.trans h3⟩)
        clear HC hw6 o6 x0 x1 k0 k1 HO HSTEP
        by_cases hz : C = 0
        ·have d0 : (C == 0) = true := by simpa using hz
         cases yf <;> cases fl
         ·obtain ⟨v7, w7, happ, o7, b7⟩ := HAP.out true (yes_t ⟨HPZ.out.1 hz, rfl⟩)
          have HB7 := hid b7
          have HO7 := hid o7
          clear HAP o7 b7
          go_wp2_with (at_builtin; refine wpList_app2 rfl _ _ _ _ rfl happ (by rfl) (by rfl) rfl ?_; clear happ)
          go_roundw
          case rel => exact ⟨k + 1, hlt, by go_num, HB7, HO7⟩
          case measure => simp [intOf]; omega
         ·obtain ⟨v7, w7, happ, o7, b7⟩ := HAP.out false (yes_f (fun h => by cases h.2))
          have HB7 := hid b7
          have HO7 := hid o7
          clear HAP o7 b7
          go_wp2_with (at_builtin; refine wpList_app2 rfl _ _ _ _ rfl happ (by rfl) (by rfl) rfl ?_; clear happ)
          go_roundw
          case rel => exact ⟨k + 1, hlt, by go_num, HB7, HO7⟩
          case measure => simp [intOf]; omega
         ·obtain ⟨v7, w7, happ, o7, b7⟩ := HAP.out false (yes_f (fun h => by cases h.2))
          have HB7 := hid b7
          have HO7 := hid o7
          clear HAP o7 b7
          go_wp2_with (at_builtin; refine wpList_app2 rfl _ _ _ _ rfl happ (by rfl) (by rfl) rfl ?_; clear happ)
          go_roundw
          case rel => exact ⟨k + 1, hlt, by go_num, HB7, HO7⟩
          case measure => simp [intOf]; omega
         ·obtain ⟨v7, w7, happ, o7, b7⟩ := HAP.out true (yes_t ⟨HPZ.out.1 hz, rfl⟩)
          have HB7 := hid b7
          have HO7 := hid o7
          clear HAP o7 b7
          go_wp2_with (at_builtin; refine wpList_app2 rfl _ _ _ _ rfl happ (by rfl) (by rfl) rfl ?_; clear happ)
          go_roundw
          case rel => exact ⟨k + 1, hlt, by go_num, HB7, HO7⟩
          case measure => simp [intOf]; omega
        ·have d0 : (C == 0) = false := by simpa using hz
         obtain ⟨v7, w7, happ, o7, b7⟩ := HAP.out false (yes_f (fun h => hz (HPZ.out.2 h.1)))
         have HB7 := hid b7
         have HO7 := hid o7
         clear HAP o7 b7
         go_wp2_with (at_builtin; refine wpList_app2 rfl _ _ _ _ rfl happ (by rfl) (by rfl) rfl ?_; clear happ)
         go_roundw
         case rel => exact ⟨k + 1, hlt, by go_num, HB7, HO7⟩
         case measure => simp [intOf]; omega
       ·obtain rfl : k = S.l.length := by omega
        obtain ⟨gg, gc, hvv, hgl, hgc⟩ := HO.out.cells
        subst hvv
        rw [gnB_len]
        rw [gnB_len] at hgc
        obtain ⟨w5, hw5⟩ : ∃ w5, wr.alloc (.cells #[] 57) = w5 := ⟨_, rfl⟩
        have b5 : Below wr.heap.size wr w5 := by rw [← hw5]; exact (Below.refl _ _).alloc (Nat.le_refl _) _
        have hrow : w5.ownsRow wr.heap.size 57 5 (.slice (some ⟨wr.heap.size, 0, none⟩) 0 0) 0 [] := by
         rw [← hw5]
         exact World.ownsRow_lit (base := wr.heap.size) (e := 57) (size := 5) wr #[] 0 (Nat.le_refl _) (by unfold maxLen; omega) rfl
        obtain ⟨g7, c7, w7, happ, b7, hg7, q0, q1, q2, q3, q4⟩ := leafApp1 wr.heap.size w5 wr.heap.size pa p.length pc fl dr dq v hrow b5.size
        have bW : Below wr.heap.size wr w7 := b5.trans b7
        have hput : LCap w7 (some ⟨g7, 0, none⟩) [(⟨p, fl, dr, dq, v⟩ : Lf)] := by
         refine .inr ⟨g7, 0, rfl, hg7, fun i hi => ?_⟩
         obtain rfl : i = 0 := by simpa using hi
         exact ⟨pa, pc, ⟨q0, HPC.out⟩, (HSG.out.below HLW.out).below bW, q1, q2, q3, q4⟩
        have D5 := (HD4.out.below HB.out HD4.out.lt).below b5 (HD4.out.below HB.out HD4.out.lt).lt
        have t0 := D5.c0
        have t1 := D5.c1
        have A7 := (HA4.out.below HB.out HA4.out.lt).below bW (HA4.out.below HB.out HA4.out.lt).lt
        have t2 := A7.c0
        have t3 := A7.c1
        have b25 := keepS HB.out bW
        have bl5 := keepS HLW.out bW
        have HCH := hid (l3ChangeC (gnS p fl) [⟨p, fl, dr, dq, v⟩] a c xg xo d gg gc (some ⟨g7, 0, none⟩) c7 S w7 HS0.out HPT.out (H1.out.below bl5) (H3.out.below bl5) (Nat.lt_of_lt_of_le hgl bW.size) (fun i hi => by
         rw [← gnB_at hi]
         exact (bW.cell (p := ⟨gg, i, none⟩) hgl).trans (hgc i hi)) hput)
        obtain ⟨X, hX⟩ : ∃ X, chX S (dlS (gnS p fl) S.l [⟨p, fl, dr, dq, v⟩]) = X := ⟨_, rfl⟩
        obtain ⟨Y, hY⟩ : ∃ Y, chY S (dlS (gnS p fl) S.l [⟨p, fl, dr, dq, v⟩]) = Y := ⟨_, rfl⟩
        obtain ⟨Cc, hCc⟩ : ∃ Cc, chC S (dlS (gnS p fl) S.l [⟨p, fl, dr, dq, v⟩]) = Cc := ⟨_, rfl⟩
        rw [hX, hY, hCc] at HCH
        have HXYC : Hid (seX S dr p fl true v = X ∧ seY S dr p fl true v = Y ∧ seC S dr p fl true v = Cc) := hid (by
         obtain ⟨z1, z2, z3⟩ := HZr.out
         rw [HSD.out] at z1 z2 z3
         exact ⟨z1.trans hX, z2.trans hY, z3.trans hCc⟩)
        have HB25 := hid b25
        have HZ3 : Hid (w.heap.size + 3 ≤ w7.heap.size) := hid (by have h1 := HZ1.out; have h2 := b25.size; have h3 := HB24.out.size; omega)
        clear hX hY hCc hgl hgc b25 bl5 HO A1 A7 bW hrow k0 k1
        have k0 := (HA4.out.below HB.out HA4.out.lt).c0
        clear b5 D5 hput q0 q1 q2 q3 q4 hg7 b7 HB
        go_wp2_with (at_builtin; refine wpList_app2 rfl _ _ _ _ rfl happ (by rfl) (by rfl) rfl ?_; clear happ)
        refine HCH.out.mono ?_
        rintro e w4 ⟨ra, rc, rx, rd, ra', rc', rx', rd', rfl, ox, oy, b4⟩
        have b24 := keepS HB24.out (keepS HB25.out b4)
        have HR1x := hid (HRR1.out.below b24 HRR1.out.lt)
        have HR2x := hid (HRR2.out.below b24 HRR2.out.lt)
        have HBx := hid (keepS HBB.out b24)
        have HOX := hid ox
        have HOY := hid oy
        clear b4 b24 ox oy HCH t2 t3 k0 HRR1 HRR2 HBB
        try clear t0 t1
        have HRR1 := HR1x
        have HRR2 := HR2x
        have HBB := HBx
        clear HR1x HR2x HBx
        have TB := twoB HRR1.out HRR2.out (show w.heap.size + 1 ≠ w.heap.size + 1 + 1 by omega) (.slice ra X.l.length rc) (.slice rx X.n rd) (.slice ra' Y.l.length rc') (.slice rx' Y.n rd')
        have r0 := HRR1.out.c0
        have r1 := HRR1.out.c1
        have rf := HRR1.out.f
        have q0 := TB.1.c0
        have q1 := TB.1.c1
        have qf := TB.1.f
        have HTW := hid TB.2
        clear TB
        go_wp2_with fail
        obtain ⟨X1, X2⟩ := HTW.out
        refine bodyPost_ret (v := .tuple #[.agg #[.slice ra X.l.length rc, .slice rx X.n rd], .agg #[.slice ra' Y.l.length rc', .slice rx' Y.n rd'], .int .i64 Cc]) (by simp [results, Tryz.results38, go_sem, X1.c0, X1.c1, X2.c0, X2.c1]) rfl ?_
        have hz := HZ3.out
        have G3 := below4 HBB.out (show w.heap.size ≤ w.heap.size + 1 by omega) (show w.heap.size ≤ w.heap.size + 1 + 1 by omega) (.slice ra X.l.length rc) (.slice rx X.n rd) (.slice ra' Y.l.length rc') (.slice rx' Y.n rd')
        rw [HXYC.out.1, HXYC.out.2.1, HXYC.out.2.2]
        have G1 := snc4 (r1 := w.heap.size + 1) (r2 := w.heap.size + 1 + 1) HOX.out (show w.heap.size ≤ w7.heap.size by omega) (show w.heap.size + 1 < w7.heap.size by omega) (show w.heap.size + 1 + 1 < w7.heap.size by omega) (.slice ra X.l.length rc) (.slice rx X.n rd) (.slice ra' Y.l.length rc') (.slice rx' Y.n rd')
        have G2 := snc4 (r1 := w.heap.size + 1) (r2 := w.heap.size + 1 + 1) HOY.out (show w.heap.size ≤ w7.heap.size by omega) (show w.heap.size + 1 < w7.heap.size by omega) (show w.heap.size + 1 + 1 < w7.heap.size by omega) (.slice ra X.l.length rc) (.slice rx X.n rd) (.slice ra' Y.l.length rc') (.slice rx' Y.n rd')
        first
         | exact ⟨ra, rc, rx, rd, ra', rc', rx', rd', rfl, G1, G2, G3⟩
         | exact ⟨ra, rc, rx, rd, ra', rc', rx', ⟨rd', rfl⟩, G1, G2, G3⟩
     | false =>
      have HSD : Hid (seD S rep p fl false v = dlS (gnS p fl) S.l []) := hid rfl
      clear hsk
      have HA4 := hid (HA1.out.below HB24.out HA1.out.lt)
      have HB4 := hid (keepS HBB.out HB24.out)
      obtain ⟨w5, hw5⟩ : ∃ w5, u4.alloc (.cells #[] 4) = w5 := ⟨_, rfl⟩
      have b5 : Below u4.heap.size u4 w5 := by rw [← hw5]; exact (Below.refl _ _).alloc (Nat.le_refl _) _
      have HG0 : Hid (BR w5 u4.heap.size (.slice (some ⟨u4.heap.size, 0, none⟩) 0 0) (gnB (gnS p fl) S.l 0)) := hid (by rw [← hw5]; exact BR.new _)
      have HB5 := hid b5
      clear b5
      go_wp2_with fail
      try rw [hu4]
      try rw [hw5]
      clear hw5 hu4
      go_loopw [17, 18] (fun o i wr => ∃ k : Nat, k ≤ S.l.length ∧ i = .int .i64 k ∧ Hid (Below u4.heap.size u4 wr) ∧ Hid (BR wr u4.heap.size o (gnB (gnS p fl) S.l k))) (fun _ i _ => S.l.length - (intOf i).toNat)
      case atStart => exact ⟨0, Nat.zero_le _, rfl, HB5, HG0⟩
      case round =>
       clear HB5 HG0
       obtain ⟨k, hk, rfl, HB, HO⟩ := hrel
       have HLW := hid (keepS HB4.out HB.out)
       have A1 := HA4.out.below HB.out HA4.out.lt
       have k0 := A1.c0
       have k1 := A1.c1
       by_cases hlt : k < S.l.length
       ·have i1 : (0 : Int) ≤ (k : Int) := Int.natCast_nonneg _
        have i2 : (k : Int) < (S.l.length : Int) := by omega
        obtain ⟨ab, ao, rfl, hab, hcs⟩ := (H1.out).resolve_left (by omega)
        obtain ⟨qa, qc, ⟨c0, hcap⟩, sg, c1, c2, c3, c4⟩ := hcs k hlt
        have x0 := (HLW.out.cell (p := ⟨ab, ao + k * 5, none⟩) hab).trans c0
        have x1 := (HLW.out.cell (p := ⟨ab, ao + k * 5 + 1, none⟩) hab).trans c1
        have HC := hid (cmpSpec (gL S.l k).p p qa pa qc pc wr hcap.1 HPC.out.1 hcap.2 HPC.out.2 (sg.below HLW.out) (HSG.out.below HLW.out))
        have HPZ : Hid (cmpP (gL S.l k).p p = 0 ↔ (gL S.l k).p = p) := hid cmpP_z
        have HSTEP : Hid (gnB (gnS p fl) S.l (k + 1) = gnB (gnS p fl) S.l k ++ [yes ((gL S.l k).p = p ∧ (gL S.l k).fl = fl)]) := hid (gnB_succ hlt)
        obtain ⟨y, hy⟩ : ∃ y, gL S.l k = y := ⟨_, rfl⟩
        rw [hy] at x0 x1 HC HPZ HSTEP
        obtain ⟨lp, yf, yr, yq, yv⟩ := y
        dsimp only at x0 x1 HC HPZ HSTEP
        obtain ⟨C, hC⟩ : ∃ C, cmpP lp p = C := ⟨_, rfl⟩
        rw [hC] at HPZ HC
        clear hC hy hcs sg c0 c1 c2 c3 c4 hcap hab A1
        go_wp2_with fail
        refine HC.out.mono ?_
        rintro e w6 ⟨rfl, dn, hw6⟩
        have HB6 : Hid (Below u4.heap.size u4 w6) := hid (by rw [hw6]; exact below_drewS HB.out dn)
        have o6 : BR w6 u4.heap.size u17 (gnB (gnS p fl) S.l k) := by rw [hw6]; exact HO.out.below (below_drewS (Below.refl _ _) dn)
        have y1 : w6.cell? ⟨ab, ao + k * 5 + 1, none⟩ = some (.bool yf) := by rw [hw6]; simpa using x1
        have m0 : w6.cell? ⟨w.heap.size, 0, none⟩ = some (.slice (some ⟨ab, ao, none⟩) S.l.length c) := by rw [hw6]; simpa using k0
        have HAP : Hid (∀ bb, yes (lp = p ∧ yf = fl) = bb → ∃ v7 w7, (Builtin.append_ #[53, 53] 53 #[u17, .slice (some ⟨w6.heap.size, 0, none⟩) 1 1]).run Tryz.prog (w6.alloc (.cells #[.bool bb] 4)) = .ok v7 w7 ∧ BR w7 u4.heap.size v7 (gnB (gnS p fl) S.l (k + 1)) ∧ Below u4.heap.size u4 w7) := hid (fun bb hbb => by
         obtain ⟨v7, w7, h1, h2, h3⟩ := boolApp u4.heap.size w6 u17 (gnB (gnS p fl) S.l k) bb o6 HB6.out.size (by have := gnB_le (gnS p fl) S.l k; omega)
         exact ⟨v7, w7, h1, by rw [HSTEP.out, hbb]; exact h2, HB6.out.trans h3⟩)
        clear HC hw6 o6 x0 x1 k0 k1 HO HSTEP
        by_cases hz : C = 0
        ·have d0 : (C == 0) = true := by simpa using hz
         cases yf <;> cases fl
         ·obtain ⟨v7, w7, happ, o7, b7⟩ := HAP.out true (yes_t ⟨HPZ.out.1 hz, rfl⟩)
          have HB7 := hid b7
          have HO7 := hid o7
          clear HAP o7 b7
          go_wp2_with (at_builtin; refine wpList_app2 rfl _ _ _ _ rfl happ (by rfl) (by rfl) rfl ?_; clear happ)
          go_roundw
          case rel => exact ⟨k + 1, hlt, by go_num, HB7, HO7⟩
          case measure => simp [intOf]; omega
         ·obtain ⟨v7, w7, happ, o7, b7⟩ := HAP.out false (yes_f (fun h => by cases h.2))
          have HB7 := hid b7
          have HO7 := hid o7
          clear HAP o7 b7
          go_wp2_with (at_builtin; refine wpList_app2 rfl _ _ _ _ rfl happ (by rfl) (by rfl) rfl ?_; clear happ)
          go_roundw
          case rel => exact ⟨k + 1, hlt, by go_num, HB7, HO7⟩
          case measure => simp [intOf]; omega
         ·obtain ⟨v7, w7, happ, o7, b7⟩ := HAP.out false (yes_f (fun h => by cases h.2))
          have HB7 := hid b7
          have HO7 := hid o7
          clear HAP o7 b7
          go_wp2_with (at_builtin; refine wpList_app2 rfl _ _ _ _ rfl happ (by rfl) (by rfl) rfl ?_; clear happ)
          go_roundw
          case rel => exact ⟨k + 1, hlt, by go_num, HB7, HO7⟩
          case measure => simp [intOf]; omega
         ·obtain ⟨v7, w7, happ, o7, b7⟩ := HAP.out true (yes_t ⟨HPZ.out.1 hz, rfl⟩)
          have HB7 := hid b7
          have HO7 := hid o7
          clear HAP o7 b7
          go_wp2_with (at_builtin; refine wpList_app2 rfl _ _ _ _ rfl happ (by rfl) (by rfl) rfl ?_; clear happ)
          go_roundw
          case rel => exact ⟨k + 1, hlt, by go_num, HB7, HO7⟩
          case measure => simp [intOf]; omega
        ·have d0 : (C == 0) = false := by simpa using hz
         obtain ⟨v7, w7, happ, o7, b7⟩ := HAP.out false (yes_f (fun h => hz (HPZ.out.2 h.1)))
         have HB7 := hid b7
         have HO7 := hid o7
         clear HAP o7 b7
         go_wp2_with (at_builtin; refine wpList_app2 rfl _ _ _ _ rfl happ (by rfl) (by rfl) rfl ?_; clear happ)
         go_roundw
         case rel => exact ⟨k + 1, hlt, by go_num, HB7, HO7⟩
         case measure => simp [intOf]; omega
       ·obtain rfl : k = S.l.length := by omega
        obtain ⟨gg, gc, hvv, hgl, hgc⟩ := HO.out.cells
        subst hvv
        rw [gnB_len]
        rw [gnB_len] at hgc
        obtain ⟨w5, hw5⟩ : ∃ w5, wr.alloc (.cells #[] 57) = w5 := ⟨_, rfl⟩
        have b5 : Below wr.heap.size wr w5 := by rw [← hw5]; exact (Below.refl _ _).alloc (Nat.le_refl _) _
        have hrow : w5.ownsRow wr.heap.size 57 5 (.slice (some ⟨wr.heap.size, 0, none⟩) 0 0) 0 [] := by
         rw [← hw5]
         exact World.ownsRow_lit (base := wr.heap.size) (e := 57) (size := 5) wr #[] 0 (Nat.le_refl _) (by unfold maxLen; omega) rfl
        have bW := b5
        have A7 := (HA4.out.below HB.out HA4.out.lt).below bW (HA4.out.below HB.out HA4.out.lt).lt
        have t2 := A7.c0
        have t3 := A7.c1
        have b25 := keepS HB.out bW
        have bl5 := keepS HLW.out bW
        have HCH := hid (l3ChangeC (gnS p fl) [] a c xg xo d gg gc (some ⟨wr.heap.size, 0, none⟩) 0 S w5 HS0.out (PtO.nil S) (H1.out.below bl5) (H3.out.below bl5) (Nat.lt_of_lt_of_le hgl bW.size) (fun i hi => by
         rw [← gnB_at hi]
         exact (bW.cell (p := ⟨gg, i, none⟩) hgl).trans (hgc i hi)) (.inl rfl))
        obtain ⟨X, hX⟩ : ∃ X, chX S (dlS (gnS p fl) S.l []) = X := ⟨_, rfl⟩
        obtain ⟨Y, hY⟩ : ∃ Y, chY S (dlS (gnS p fl) S.l []) = Y := ⟨_, rfl⟩
        obtain ⟨Cc, hCc⟩ : ∃ Cc, chC S (dlS (gnS p fl) S.l []) = Cc := ⟨_, rfl⟩
        rw [hX, hY, hCc] at HCH
        have HXYC : Hid (seX S rep p fl false v = X ∧ seY S rep p fl false v = Y ∧ seC S rep p fl false v = Cc) := hid (by
         obtain ⟨z1, z2, z3⟩ := HZr.out
         rw [HSD.out] at z1 z2 z3
         exact ⟨z1.trans hX, z2.trans hY, z3.trans hCc⟩)
        have HB25 := hid b25
        have HZ3 : Hid (w.heap.size + 3 ≤ w5.heap.size) := hid (by have h1 := HZ1.out; have h2 := b25.size; have h3 := HB24.out.size; omega)
        clear hX hY hCc hgl hgc b25 bl5 HO A1 A7 bW hrow k0 k1
        have k0 := (HA4.out.below HB.out HA4.out.lt).c0
        clear b5 HB
        go_wp2_with fail
        try rw [hw5]
        clear hw5
        refine HCH.out.mono ?_
        rintro e w4 ⟨ra, rc, rx, rd, ra', rc', rx', rd', rfl, ox, oy, b4⟩
        have b24 := keepS HB24.out (keepS HB25.out b4)
        have HR1x := hid (HRR1.out.below b24 HRR1.out.lt)
        have HR2x := hid (HRR2.out.below b24 HRR2.out.lt)
        have HBx := hid (keepS HBB.out b24)
        have HOX := hid ox
        have HOY := hid oy
        clear b4 b24 ox oy HCH t2 t3 k0 HRR1 HRR2 HBB
        try clear t0 t1
        have HRR1 := HR1x
        have HRR2 := HR2x
        have HBB := HBx
        clear HR1x HR2x HBx
        have TB := twoB HRR1.out HRR2.out (show w.heap.size + 1 ≠ w.heap.size + 1 + 1 by omega) (.slice ra X.l.length rc) (.slice rx X.n rd) (.slice ra' Y.l.length rc') (.slice rx' Y.n rd')
        have r0 := HRR1.out.c0
        have r1 := HRR1.out.c1
        have rf := HRR1.out.f
        have q0 := TB.1.c0
        have q1 := TB.1.c1
        have qf := TB.1.f
        have HTW := hid TB.2
        clear TB
        go_wp2_with fail
        obtain ⟨X1, X2⟩ := HTW.out
        refine bodyPost_ret (v := .tuple #[.agg #[.slice ra X.l.length rc, .slice rx X.n rd], .agg #[.slice ra' Y.l.length rc', .slice rx' Y.n rd'], .int .i64 Cc]) (by simp [results, Tryz.results38, go_sem, X1.c0, X1.c1, X2.c0, X2.c1]) rfl ?_
        have hz := HZ3.out
        have G3 := below4 HBB.out (show w.heap.size ≤ w.heap.size + 1 by omega) (show w.heap.size ≤ w.heap.size + 1 + 1 by omega) (.slice ra X.l.length rc) (.slice rx X.n rd) (.slice ra' Y.l.length rc') (.slice rx' Y.n rd')
        rw [HXYC.out.1, HXYC.out.2.1, HXYC.out.2.2]
        have G1 := snc4 (r1 := w.heap.size + 1) (r2 := w.heap.size + 1 + 1) HOX.out (show w.heap.size ≤ w5.heap.size by omega) (show w.heap.size + 1 < w5.heap.size by omega) (show w.heap.size + 1 + 1 < w5.heap.size by omega) (.slice ra X.l.length rc) (.slice rx X.n rd) (.slice ra' Y.l.length rc') (.slice rx' Y.n rd')
        have G2 := snc4 (r1 := w.heap.size + 1) (r2 := w.heap.size + 1 + 1) HOY.out (show w.heap.size ≤ w5.heap.size by omega) (show w.heap.size + 1 < w5.heap.size by omega) (show w.heap.size + 1 + 1 < w5.heap.size by omega) (.slice ra X.l.length rc) (.slice rx X.n rd) (.slice ra' Y.l.length rc') (.slice rx' Y.n rd')
        first
         | exact ⟨ra, rc, rx, rd, ra', rc', rx', rd', rfl, G1, G2, G3⟩
         | exact ⟨ra, rc, rx, rd, ra', rc', rx', ⟨rd', rfl⟩, G1, G2, G3⟩
    ·have HZ := hid (se_3 (S := S) (rep := rep) (p := p) (fl := fl) (on := on) (v := v) HO0.out hsk)
     by_cases hr : 0 ≤ rep ∧ rep < 8
     ·have hr1 : 0 ≤ rep := hr.1
      have hr2 : rep < 8 := hr.2
      have hr3 : ¬ rep < 0 := by omega
      have hr4 : ¬ 8 ≤ rep := by omega
      cases on with
      | true =>
       obtain rfl : ok = false := by rw [HOKB.out]; exact yes_f (fun h => hsk ⟨hr, fun _ => h.2⟩)
       clear hsk hr
       have HRx1 := hid (HRR1.out.below HB24.out HRR1.out.lt)
       have HRx2 := hid (HRR2.out.below HB24.out HRR2.out.lt)
       have HBx := hid (keepS HBB.out HB24.out)
       clear HRR1 HRR2 HBB HB24 HD4
       have HRR1 := HRx1
       have HRR2 := HRx2
       have HBB := HBx
       clear HRx1 HRx2 HBx
       have TB := twoB HRR1.out HRR2.out (show w.heap.size + 1 ≠ w.heap.size + 1 + 1 by omega) (.slice none 0 0) (.slice none 0 0) (.slice none 0 0) (.slice none 0 0)
       have r0 := HRR1.out.c0
       have r1 := HRR1.out.c1
       have rf := HRR1.out.f
       have q0 := TB.1.c0
       have q1 := TB.1.c1
       have qf := TB.1.f
       have HTW := hid TB.2
       clear TB
       go_wp2_with fail
       try rw [hu4]
       obtain ⟨X1, X2⟩ := HTW.out
       refine bodyPost_ret (v := .tuple #[.agg #[.slice none 0 0, .slice none 0 0], .agg #[.slice none 0 0, .slice none 0 0], .int .i64 3]) (by simp [results, Tryz.results38, go_sem, X1.c0, X1.c1, X2.c0, X2.c1]) rfl ?_
       rw [HZ.out.1, HZ.out.2.1, HZ.out.2.2]
       have G3 := below4 HBB.out (show w.heap.size ≤ w.heap.size + 1 by omega) (show w.heap.size ≤ w.heap.size + 1 + 1 by omega) (.slice none 0 0) (.slice none 0 0) (.slice none 0 0) (.slice none 0 0)
       first
        | exact ⟨none, 0, none, 0, none, 0, none, 0, rfl, SNc.mt _ _ _ _, SNc.mt _ _ _ _, G3⟩
        | exact ⟨none, 0, none, 0, none, 0, none, ⟨0, rfl⟩, SNc.mt _ _ _ _, SNc.mt _ _ _ _, G3⟩
      | false => exact absurd ⟨hr, fun h => by cases h⟩ hsk
     ·by_cases hr3 : rep < 0
      ·clear hsk hr
       have HRx1 := hid (HRR1.out.below HB24.out HRR1.out.lt)
       have HRx2 := hid (HRR2.out.below HB24.out HRR2.out.lt)
       have HBx := hid (keepS HBB.out HB24.out)
       clear HRR1 HRR2 HBB HB24 HD4
       have HRR1 := HRx1
       have HRR2 := HRx2
       have HBB := HBx
       clear HRx1 HRx2 HBx
       have TB := twoB HRR1.out HRR2.out (show w.heap.size + 1 ≠ w.heap.size + 1 + 1 by omega) (.slice none 0 0) (.slice none 0 0) (.slice none 0 0) (.slice none 0 0)
       have r0 := HRR1.out.c0
       have r1 := HRR1.out.c1
       have rf := HRR1.out.f
       have q0 := TB.1.c0
       have q1 := TB.1.c1
       have qf := TB.1.f
       have HTW := hid TB.2
       clear TB
       go_wp2_with fail
       try rw [hu4]
       obtain ⟨X1, X2⟩ := HTW.out
       refine bodyPost_ret (v := .tuple #[.agg #[.slice none 0 0, .slice none 0 0], .agg #[.slice none 0 0, .slice none 0 0], .int .i64 3]) (by simp [results, Tryz.results38, go_sem, X1.c0, X1.c1, X2.c0, X2.c1]) rfl ?_
       rw [HZ.out.1, HZ.out.2.1, HZ.out.2.2]
       have G3 := below4 HBB.out (show w.heap.size ≤ w.heap.size + 1 by omega) (show w.heap.size ≤ w.heap.size + 1 + 1 by omega) (.slice none 0 0) (.slice none 0 0) (.slice none 0 0) (.slice none 0 0)
       first
        | exact ⟨none, 0, none, 0, none, 0, none, 0, rfl, SNc.mt _ _ _ _, SNc.mt _ _ _ _, G3⟩
        | exact ⟨none, 0, none, 0, none, 0, none, ⟨0, rfl⟩, SNc.mt _ _ _ _, SNc.mt _ _ _ _, G3⟩
      ·have hr1 : 0 ≤ rep := by omega
       have hr4 : 8 ≤ rep := by omega
       have hr2 : ¬ rep < 8 := by omega
       clear hsk hr
       have HRx1 := hid (HRR1.out.below HB24.out HRR1.out.lt)
       have HRx2 := hid (HRR2.out.below HB24.out HRR2.out.lt)
       have HBx := hid (keepS HBB.out HB24.out)
       clear HRR1 HRR2 HBB HB24 HD4
       have HRR1 := HRx1
       have HRR2 := HRx2
       have HBB := HBx
       clear HRx1 HRx2 HBx
       have TB := twoB HRR1.out HRR2.out (show w.heap.size + 1 ≠ w.heap.size + 1 + 1 by omega) (.slice none 0 0) (.slice none 0 0) (.slice none 0 0) (.slice none 0 0)
       have r0 := HRR1.out.c0
       have r1 := HRR1.out.c1
       have rf := HRR1.out.f
       have q0 := TB.1.c0
       have q1 := TB.1.c1
       have qf := TB.1.f
       have HTW := hid TB.2
       clear TB
       go_wp2_with fail
       try rw [hu4]
       obtain ⟨X1, X2⟩ := HTW.out
       refine bodyPost_ret (v := .tuple #[.agg #[.slice none 0 0, .slice none 0 0], .agg #[.slice none 0 0, .slice none 0 0], .int .i64 3]) (by simp [results, Tryz.results38, go_sem, X1.c0, X1.c1, X2.c0, X2.c1]) rfl ?_
       rw [HZ.out.1, HZ.out.2.1, HZ.out.2.2]
       have G3 := below4 HBB.out (show w.heap.size ≤ w.heap.size + 1 by omega) (show w.heap.size ≤ w.heap.size + 1 + 1 by omega) (.slice none 0 0) (.slice none 0 0) (.slice none 0 0) (.slice none 0 0)
       first
        | exact ⟨none, 0, none, 0, none, 0, none, 0, rfl, SNc.mt _ _ _ _, SNc.mt _ _ _ _, G3⟩
        | exact ⟨none, 0, none, 0, none, 0, none, ⟨0, rfl⟩, SNc.mt _ _ _ _, SNc.mt _ _ _ _, G3⟩
   ·have i0 : (v.size : Int) > 200 := by omega
    have HZ : Hid (seX S rep p fl on v = Sx.mt ∧ seY S rep p fl on v = Sx.mt ∧ seC S rep p fl on v = 2) := hid (by
     have e := ocC_2 (p := p) (v := v) HSB.out (fun h => hvs h.2)
     have := se_n (S := S) (rep := rep) (p := p) (fl := fl) (on := on) (v := v) (by rw [e]; decide)
     rw [e] at this; exact this)
    clear hvs
    have TB := twoB HRR1.out HRR2.out (show w.heap.size + 1 ≠ w.heap.size + 1 + 1 by omega) (.slice none 0 0) (.slice none 0 0) (.slice none 0 0) (.slice none 0 0)
    have r0 := HRR1.out.c0
    have r1 := HRR1.out.c1
    have rf := HRR1.out.f
    have q0 := TB.1.c0
    have q1 := TB.1.c1
    have qf := TB.1.f
    have HTW := hid TB.2
    clear TB
    go_wp2_with fail
    obtain ⟨X1, X2⟩ := HTW.out
    refine bodyPost_ret (v := .tuple #[.agg #[.slice none 0 0, .slice none 0 0], .agg #[.slice none 0 0, .slice none 0 0], .int .i64 2]) (by simp [results, Tryz.results38, go_sem, X1.c0, X1.c1, X2.c0, X2.c1]) rfl ?_
    rw [HZ.out.1, HZ.out.2.1, HZ.out.2.2]
    have G3 := below4 HBB.out (show w.heap.size ≤ w.heap.size + 1 by omega) (show w.heap.size ≤ w.heap.size + 1 + 1 by omega) (.slice none 0 0) (.slice none 0 0) (.slice none 0 0) (.slice none 0 0)
    first
     | exact ⟨none, 0, none, 0, none, 0, none, 0, rfl, SNc.mt _ _ _ _, SNc.mt _ _ _ _, G3⟩
     | exact ⟨none, 0, none, 0, none, 0, none, ⟨0, rfl⟩, SNc.mt _ _ _ _, SNc.mt _ _ _ _, G3⟩
theorem specSetFlag (a : Option Addr) (c xg xo d : Nat) (pa : Option Addr) (pc : Nat) (S : Sx) (rep : Int) (p : List ByteArray) (on : Bool) (w : World) (hm : S.Sm) (hT : I64 S.T) (h1 : LCap w a S.l) (h3 : RSeg w (some ⟨xg, xo, none⟩) S.n S.R S.F S.T) (hp : p.length ≤ 1048576) (hpc : p.length ≤ pc ∧ pc ≤ 9223372036854775807) (hseg : SSeg w pa p) :
  Calls Tryz.prog 19 #[.agg #[.slice a S.l.length c, .slice (some ⟨xg, xo, none⟩) S.n d], .int .i64 rep, .slice pa p.length pc, .bool on] w fun e w' => ∃ a m x t a' m' x' t', e = .returned (.tuple #[.agg #[.slice a (seX S rep p true on ⟨#[]⟩).l.length m, .slice x (seX S rep p true on ⟨#[]⟩).n t], .agg #[.slice a' (seY S rep p true on ⟨#[]⟩).l.length m', .slice x' (seY S rep p true on ⟨#[]⟩).n t'], .int .i64 (seC S rep p true on ⟨#[]⟩)]) ∧ SNc w' w.heap.size a x (seX S rep p true on ⟨#[]⟩) ∧ SNc w' w.heap.size a' x' (seY S rep p true on ⟨#[]⟩) ∧ Below w.heap.size w w' := by
 obtain ⟨W, hW⟩ : ∃ W, ((w.alloc (.cells #[.slice a S.l.length c, .slice (some ⟨xg, xo, none⟩) S.n d] 36)).alloc (.cells #[.slice none 0 0, .slice none 0 0] 36)).alloc (.cells #[.slice none 0 0, .slice none 0 0] 36) = W := ⟨_, rfl⟩
 have b0 : Below w.heap.size w W := by rw [← hW]; exact (below2 _ _ _).alloc (by simp; omega) _
 have zW : W.heap.size = w.heap.size + 3 := by rw [← hW]; simp
 have A0 : Bx2 W w.heap.size (.slice a S.l.length c) (.slice (some ⟨xg, xo, none⟩) S.n d) := by rw [← hW]; exact ((Bx2.made w _ _ _).allocs _).allocs _
 have R0 : Bx2 W (w.heap.size + 1) (.slice none 0 0) (.slice none 0 0) := by
  rw [← hW]
  have := Bx2.made (w.alloc (.cells #[.slice a S.l.length c, .slice (some ⟨xg, xo, none⟩) S.n d] 36)) (.slice none 0 0) (.slice none 0 0) 36
  exact (by simpa using this : Bx2 _ (w.heap.size + 1) _ _).allocs _
 have Q0 : Bx2 W (w.heap.size + 1 + 1) (.slice none 0 0) (.slice none 0 0) := by
  rw [← hW]
  simpa using Bx2.made ((w.alloc (.cells #[.slice a S.l.length c, .slice (some ⟨xg, xo, none⟩) S.n d] 36)).alloc (.cells #[.slice none 0 0, .slice none 0 0] 36)) (.slice none 0 0) (.slice none 0 0) 36
 have HA0 := hid A0
 have HR0 := hid R0
 have HQ0 := hid Q0
 have HB0 := hid b0
 have HZW := hid zW
 have k0 := A0.c0
 have k1 := A0.c1
 have HCH := hid (l3SetC a c xg xo d pa pc S rep p true on ⟨#[]⟩ W hm hT (h1.below b0) (h3.below b0) hp hpc (hseg.below b0) (by decide) (fun _ => by simp [emB]))
 obtain ⟨X, hX⟩ : ∃ X, seX S rep p true on ⟨#[]⟩ = X := ⟨_, rfl⟩
 obtain ⟨Y, hY⟩ : ∃ Y, seY S rep p true on ⟨#[]⟩ = Y := ⟨_, rfl⟩
 obtain ⟨Cc, hCc⟩ : ∃ Cc, seC S rep p true on ⟨#[]⟩ = Cc := ⟨_, rfl⟩
 rw [hX, hY, hCc] at HCH
 have HXYC := hid (And.intro hX (And.intro hY hCc))
 have HZ3 : Hid (w.heap.size + 3 ≤ W.heap.size) := hid (by omega)
 clear b0 zW A0 R0 Q0 h1 h3 hseg hpc hX hY hCc
 go_enter Tryz.func19, Tryz.ntmps19
 go_wp2_with fail
 try rw [hW]
 clear hW
 refine HCH.out.mono ?_
 rintro e w4 ⟨ra, rc, rx, rd, ra', rc', rx', rd', rfl, ox, oy, b4⟩
 have HRR1 := hid (HR0.out.below b4 HR0.out.lt)
 have HRR2 := hid (HQ0.out.below b4 HQ0.out.lt)
 have HBB := hid (keepS HB0.out b4)
 have HOX := hid ox
 have HOY := hid oy
 clear b4 ox oy HCH k0 k1
 have TB := twoB HRR1.out HRR2.out (show w.heap.size + 1 ≠ w.heap.size + 1 + 1 by omega) (.slice ra X.l.length rc) (.slice rx X.n rd) (.slice ra' Y.l.length rc') (.slice rx' Y.n rd')
 have r0 := HRR1.out.c0
 have r1 := HRR1.out.c1
 have rf := HRR1.out.f
 have q0 := TB.1.c0
 have q1 := TB.1.c1
 have qf := TB.1.f
 have HTW := hid TB.2
 clear TB
 go_wp2_with fail
 obtain ⟨X1, X2⟩ := HTW.out
 refine bodyPost_ret (v := .tuple #[.agg #[.slice ra X.l.length rc, .slice rx X.n rd], .agg #[.slice ra' Y.l.length rc', .slice rx' Y.n rd'], .int .i64 Cc]) (by simp [results, Tryz.results19, go_sem, X1.c0, X1.c1, X2.c0, X2.c1]) rfl ?_
 have hz := HZ3.out
 have G3 := below4 HBB.out (show w.heap.size ≤ w.heap.size + 1 by omega) (show w.heap.size ≤ w.heap.size + 1 + 1 by omega) (.slice ra X.l.length rc) (.slice rx X.n rd) (.slice ra' Y.l.length rc') (.slice rx' Y.n rd')
 rw [HXYC.out.1, HXYC.out.2.1, HXYC.out.2.2]
 have G1 := snc4 (r1 := w.heap.size + 1) (r2 := w.heap.size + 1 + 1) HOX.out (show w.heap.size ≤ W.heap.size by omega) (show w.heap.size + 1 < W.heap.size by omega) (show w.heap.size + 1 + 1 < W.heap.size by omega) (.slice ra X.l.length rc) (.slice rx X.n rd) (.slice ra' Y.l.length rc') (.slice rx' Y.n rd')
 have G2 := snc4 (r1 := w.heap.size + 1) (r2 := w.heap.size + 1 + 1) HOY.out (show w.heap.size ≤ W.heap.size by omega) (show w.heap.size + 1 < W.heap.size by omega) (show w.heap.size + 1 + 1 < W.heap.size by omega) (.slice ra X.l.length rc) (.slice rx X.n rd) (.slice ra' Y.l.length rc') (.slice rx' Y.n rd')
 first
  | exact ⟨ra, rc, rx, rd, ra', rc', rx', rd', rfl, G1, G2, G3⟩
  | exact ⟨ra, rc, rx, rd, ra', rc', rx', ⟨rd', rfl⟩, G1, G2, G3⟩
theorem implSetFlag (a x pa : Option Addr) (c d pc : Nat) (S : Sx) (rep : Int) (p : List ByteArray) (on : Bool) (w : World) (hm : S.Sm) (hi : ∀ i, LfI (gL S.l i)) (h : SAt w a x S) (hp : p.length ≤ 1048576) (hseg : SSeg w pa p) (hrep : (Lit.int .i64 rep).wf = true) :
  Calls Tryz.prog 20 #[.agg #[.slice a S.l.length c, .slice x S.n d], .int .i64 rep, .slice pa p.length pc, .bool on] w fun e w' => ∃ a c x d a' c' x' d' mid, e = .returned (.tuple #[.agg #[.slice a (seX S rep p true on ⟨#[]⟩).l.length c, .slice x (seX S rep p true on ⟨#[]⟩).n d], .agg #[.slice a' (seY S rep p true on ⟨#[]⟩).l.length c', .slice x' (seY S rep p true on ⟨#[]⟩).n d'], .int .i64 (seC S rep p true on ⟨#[]⟩)]) ∧ SOw w' w.heap.size mid a x d (seX S rep p true on ⟨#[]⟩) ∧ SOw w' mid w'.heap.size a' x' d' (seY S rep p true on ⟨#[]⟩) ∧ Below w.heap.size w w' := by
 have hvs : (⟨#[]⟩ : ByteArray).size ≤ 1048576 := by decide
 obtain ⟨W, hW⟩ : ∃ W, ((w.alloc (.cells #[.slice a S.l.length c, .slice x S.n d] 36)).alloc (.cells #[.slice none 0 0, .slice none 0 0] 36)).alloc (.cells #[.slice none 0 0, .slice none 0 0] 36) = W := ⟨_, rfl⟩
 have b0 : Below w.heap.size w W := by rw [← hW]; exact (below2 _ _ _).alloc (by simp; omega) _
 have zW : W.heap.size = w.heap.size + 3 := by rw [← hW]; simp
 have A0 : Bx2 W w.heap.size (.slice a S.l.length c) (.slice x S.n d) := by rw [← hW]; exact ((Bx2.made w _ _ _).allocs _).allocs _
 have R0 : Bx2 W (w.heap.size + 1) (.slice none 0 0) (.slice none 0 0) := by
  rw [← hW]
  have := Bx2.made (w.alloc (.cells #[.slice a S.l.length c, .slice x S.n d] 36)) (.slice none 0 0) (.slice none 0 0) 36
  exact (by simpa using this : Bx2 _ (w.heap.size + 1) _ _).allocs _
 have Q0 : Bx2 W (w.heap.size + 1 + 1) (.slice none 0 0) (.slice none 0 0) := by
  rw [← hW]
  simpa using Bx2.made ((w.alloc (.cells #[.slice a S.l.length c, .slice x S.n d] 36)).alloc (.cells #[.slice none 0 0, .slice none 0 0] 36)) (.slice none 0 0) (.slice none 0 0) 36
 have HA0 := hid A0
 have HR0 := hid R0
 have HQ0 := hid Q0
 have HB0 := hid b0
 have HZW := hid zW
 have k0 := A0.c0
 have k1 := A0.c1
 have HOC := hid (openToChangeC a x pa c d pc S p ⟨#[]⟩ W hm hi (h.below b0) hp (hseg.below b0) hvs)
 have HSG := hid (hseg.below b0)
 have HRW := hid hrep
 obtain ⟨C, hC⟩ : ∃ C, ocC S p ⟨#[]⟩ = C := ⟨_, rfl⟩
 rw [hC] at HOC
 have HC := hid hC
 clear b0 zW A0 R0 Q0 h hseg hi hm hC hrep
 go_enter Tryz.func20, Tryz.ntmps20
 go_wp2_with fail
 try rw [hW]
 clear hW
 refine HOC.out.mono ?_
 rintro e w1 ⟨⟨u0, u1, u2, rfl, ho⟩, b1⟩
 have HO1 := hid ho
 obtain ⟨w2, hw2⟩ : ∃ w2, w1.alloc (.cells #[.map u0, .map u1, .map u2] 68) = w2 := ⟨_, rfl⟩
 have b2 : Below w1.heap.size w1 w2 := by rw [← hw2]; exact (Below.refl _ _).alloc (Nat.le_refl _) _
 have HX2 : Hid (Bx3 w2 w1.heap.size (.map u0) (.map u1) (.map u2)) := hid (by rw [← hw2]; exact Bx3.made _ _ _ _ _)
 have HW2 := hid (keepS b1 b2)
 have HB12 := hid b2
 have HBB := hid (keepS HB0.out HW2.out)
 have HRR1 := hid (HR0.out.below HW2.out HR0.out.lt)
 have HRR2 := hid (HQ0.out.below HW2.out HQ0.out.lt)
 have HS2 := hid (HSG.out.below HW2.out)
 have HZ2 : Hid (w.heap.size + 3 ≤ w2.heap.size) := hid (by have h1 := HZW.out; have h2 := HW2.out.size; omega)
 clear b1 b2 ho k0 k1 HOC
 by_cases hz : C = 0
 ·have hoc : ocC S p ⟨#[]⟩ = 0 := by rw [HC.out]; exact hz
  have hok := ocC_ok hoc
  obtain ⟨x0, bm, rfl, rfl, rfl, o1⟩ := HO1.out hz
  have HOP := hid (o1.below HB12.out)
  have HS := hid (stB_t hok.1)
  have HPO := hid hok.2.1
  have HVV := hid hok.2.2
  have HOC := hid hoc
  have x0' := HX2.out.c0
  have x1' := HX2.out.c1
  have x2' := HX2.out.c2
  subst hz
  clear o1 hok hoc
  cases on with
  | true =>
   have HEQ : Hid (seX S rep p true true ⟨#[]⟩ = wrX S rep p true ⟨#[]⟩ ∧ seY S rep p true true ⟨#[]⟩ = wrY S rep p true ⟨#[]⟩ ∧ seC S rep p true true ⟨#[]⟩ = wrC S rep p true ⟨#[]⟩) := hid (by
    by_cases hn : nxOk S rep
    ·have z := se_t (S := S) (rep := rep) (p := p) (fl := true) (on := true) (v := ⟨#[]⟩) HOC.out ⟨hn.1, fun _ => hn.2⟩
     have t := wr_t (S := S) (rep := rep) (p := p) (fl := true) (v := ⟨#[]⟩) hn
     exact ⟨z.1.trans t.1.symm, z.2.1.trans t.2.1.symm, z.2.2.trans t.2.2.symm⟩
    ·have z := se_3 (S := S) (rep := rep) (p := p) (fl := true) (on := true) (v := ⟨#[]⟩) HOC.out (fun h => hn ⟨h.1, h.2 rfl⟩)
     have t := wr_f (S := S) (rep := rep) (p := p) (fl := true) (v := ⟨#[]⟩) hn
     exact ⟨z.1.trans t.1.symm, z.2.1.trans t.2.1.symm, z.2.2.trans t.2.2.symm⟩)
   have hkd : kd true = 2 := rfl
   have HTB := hid (writeC rep p pa pc true ⟨#[]⟩ w2 HOP.out HS.out HPO.out HVV.out (by simp [emB]) HRW.out HS2.out)
   obtain ⟨X, hX⟩ : ∃ X, seX S rep p true true ⟨#[]⟩ = X := ⟨_, rfl⟩
   obtain ⟨Y, hY⟩ : ∃ Y, seY S rep p true true ⟨#[]⟩ = Y := ⟨_, rfl⟩
   obtain ⟨Cc, hCc⟩ : ∃ Cc, seC S rep p true true ⟨#[]⟩ = Cc := ⟨_, rfl⟩
   rw [← HEQ.out.1, ← HEQ.out.2.1, ← HEQ.out.2.2, hX, hY, hCc] at HTB
   have HXYC := hid (And.intro hX (And.intro hY hCc))
   clear hX hY hCc
   rw [hkd] at HTB
   go_wp2_with fail
   try rw [hw2]
   refine HTB.out.mono ?_
   rintro e w4 ⟨ra, rc, rx, rd, ra', rc', rx', rd', mid, rfl, ox, oy, b4⟩
   have b34 := b4
   have HR1x := hid (HRR1.out.below b34 HRR1.out.lt)
   have HR2x := hid (HRR2.out.below b34 HRR2.out.lt)
   have HBx := hid (keepS HBB.out b34)
   have HOX := hid ox
   have HOY := hid oy
   have HZ3 : Hid (w.heap.size + 3 ≤ w2.heap.size) := hid (by have h1 := HZ2.out; omega)
   clear ox oy b4 b34 HTB x0' x1' x2' hw2 HRR1 HRR2 HBB
   have HRR1 := HR1x
   have HRR2 := HR2x
   have HBB := HBx
   clear HR1x HR2x HBx
   have TB := twoB HRR1.out HRR2.out (show w.heap.size + 1 ≠ w.heap.size + 1 + 1 by omega) (.slice ra X.l.length rc) (.slice rx X.n rd) (.slice ra' Y.l.length rc') (.slice rx' Y.n rd')
   have r0 := HRR1.out.c0
   have r1 := HRR1.out.c1
   have rf := HRR1.out.f
   have q0 := TB.1.c0
   have q1 := TB.1.c1
   have qf := TB.1.f
   have HTW := hid TB.2
   clear TB
   go_wp2_with fail
   obtain ⟨X1, X2⟩ := HTW.out
   refine bodyPost_ret (v := .tuple #[.agg #[.slice ra X.l.length rc, .slice rx X.n rd], .agg #[.slice ra' Y.l.length rc', .slice rx' Y.n rd'], .int .i64 Cc]) (by simp [results, Tryz.results20, go_sem, X1.c0, X1.c1, X2.c0, X2.c1]) rfl ?_
   have hz := HZ3.out
   have G3 := below4 HBB.out (show w.heap.size ≤ w.heap.size + 1 by omega) (show w.heap.size ≤ w.heap.size + 1 + 1 by omega) (.slice ra X.l.length rc) (.slice rx X.n rd) (.slice ra' Y.l.length rc') (.slice rx' Y.n rd')
   rw [HXYC.out.1, HXYC.out.2.1, HXYC.out.2.2]
   have hmid : w2.heap.size ≤ mid := HOX.out.hl.1
   have G1 := SOw.wide (sow4 (r1 := w.heap.size + 1) (r2 := w.heap.size + 1 + 1) HOX.out (show w.heap.size + 1 < w2.heap.size by omega) (show w.heap.size + 1 + 1 < w2.heap.size by omega) (.slice ra X.l.length rc) (.slice rx X.n rd) (.slice ra' Y.l.length rc') (.slice rx' Y.n rd')) (lo' := w.heap.size) (hi' := mid) (by omega) (Nat.le_refl _) (by simp [World.setCell]; exact Nat.le_trans HOY.out.hl.1 HOY.out.hl.2)
   have G2 := sow4 (r1 := w.heap.size + 1) (r2 := w.heap.size + 1 + 1) HOY.out (show w.heap.size + 1 < mid by omega) (show w.heap.size + 1 + 1 < mid by omega) (.slice ra X.l.length rc) (.slice rx X.n rd) (.slice ra' Y.l.length rc') (.slice rx' Y.n rd')
   rw [size4]
   first
    | exact ⟨ra, rc, rx, rd, ra', rc', rx', rd', mid, rfl, G1, G2, G3⟩
    | exact ⟨ra, rc, rx, rd, ra', rc', rx', rd', rfl, mid, G1, G2, G3⟩
  | false =>
   by_cases hr : 0 ≤ rep ∧ rep < 8
   ·have HR := hid (repOk_yes rep w2 hr.1 hr.2)
    obtain ⟨w3, hw3⟩ : ∃ w3, w2.alloc (.cells #[.int .i64 2] 3) = w3 := ⟨_, rfl⟩
    have b3 : Below w2.heap.size w2 w3 := by rw [← hw3]; exact (Below.refl _ _).alloc (Nat.le_refl _) _
    have hks : ISeg w3 w2.heap.size [2] := by rw [← hw3]; exact iseg_one _ _
    have HB3 := hid b3
    have HEQ : Hid (seX S rep p true false ⟨#[]⟩ = chX S (dlS (gnS p true) S.l []) ∧ seY S rep p true false ⟨#[]⟩ = chY S (dlS (gnS p true) S.l []) ∧ seC S rep p true false ⟨#[]⟩ = chC S (dlS (gnS p true) S.l [])) := hid (se_t (S := S) (rep := rep) (p := p) (fl := true) (on := false) (v := ⟨#[]⟩) HOC.out ⟨hr, fun h => by cases h⟩)
    have HTB := hid (takeBackC (gnS p true) p pa pc w2.heap.size 1 [2] w3 (HOP.out.below b3) HS.out hp (pth_size HPO.out) (fun k hk => by rw [List.mem_singleton.1 hk]; decide) (by simp) (by have h1 := cW3 (p := p) HPO.out.1 S.l; have h2 := HS.out.2.1; simp; omega) (fun x hx => by rw [← way_gnS (p := p) (fl := true) (x := x) HPO.out.1]; exact ⟨fun e => ⟨2, by simp, e⟩, fun ⟨k, hk, e⟩ => by rw [List.mem_singleton.1 hk] at e; exact e⟩) (HS2.out.below b3) hks)
    obtain ⟨X, hX⟩ : ∃ X, seX S rep p true false ⟨#[]⟩ = X := ⟨_, rfl⟩
    obtain ⟨Y, hY⟩ : ∃ Y, seY S rep p true false ⟨#[]⟩ = Y := ⟨_, rfl⟩
    obtain ⟨Cc, hCc⟩ : ∃ Cc, seC S rep p true false ⟨#[]⟩ = Cc := ⟨_, rfl⟩
    rw [← HEQ.out.1, ← HEQ.out.2.1, ← HEQ.out.2.2, hX, hY, hCc] at HTB
    have HXYC := hid (And.intro hX (And.intro hY hCc))
    clear hX hY hCc
    go_wp2_with fail
    try rw [hw2]
    refine HR.out.mono ?_
    rintro e w9 ⟨rfl, rfl⟩
    clear HR hr b3 hks
    have x0' := HX2.out.c0
    have x1' := HX2.out.c1
    have x2' := HX2.out.c2
    go_wp2_with fail
    try rw [hw3]
    refine HTB.out.mono ?_
    rintro e w4 ⟨ra, rc, rx, rd, ra', rc', rx', rd', mid, rfl, ox, oy, b4⟩
    have b34 := keepS HB3.out b4
    have HR1x := hid (HRR1.out.below b34 HRR1.out.lt)
    have HR2x := hid (HRR2.out.below b34 HRR2.out.lt)
    have HBx := hid (keepS HBB.out b34)
    have HOX := hid ox
    have HOY := hid oy
    have HZ3 : Hid (w.heap.size + 3 ≤ w3.heap.size) := hid (by have h1 := HZ2.out; have h3 := HB3.out.size; omega)
    clear ox oy b4 b34 HTB x0' x1' x2' HRR1 HRR2 HBB
    have HRR1 := HR1x
    have HRR2 := HR2x
    have HBB := HBx
    clear HR1x HR2x HBx
    have TB := twoB HRR1.out HRR2.out (show w.heap.size + 1 ≠ w.heap.size + 1 + 1 by omega) (.slice ra X.l.length rc) (.slice rx X.n rd) (.slice ra' Y.l.length rc') (.slice rx' Y.n rd')
    have r0 := HRR1.out.c0
    have r1 := HRR1.out.c1
    have rf := HRR1.out.f
    have q0 := TB.1.c0
    have q1 := TB.1.c1
    have qf := TB.1.f
    have HTW := hid TB.2
    clear TB
    go_wp2_with fail
    obtain ⟨X1, X2⟩ := HTW.out
    refine bodyPost_ret (v := .tuple #[.agg #[.slice ra X.l.length rc, .slice rx X.n rd], .agg #[.slice ra' Y.l.length rc', .slice rx' Y.n rd'], .int .i64 Cc]) (by simp [results, Tryz.results20, go_sem, X1.c0, X1.c1, X2.c0, X2.c1]) rfl ?_
    have hz := HZ3.out
    have G3 := below4 HBB.out (show w.heap.size ≤ w.heap.size + 1 by omega) (show w.heap.size ≤ w.heap.size + 1 + 1 by omega) (.slice ra X.l.length rc) (.slice rx X.n rd) (.slice ra' Y.l.length rc') (.slice rx' Y.n rd')
    rw [HXYC.out.1, HXYC.out.2.1, HXYC.out.2.2]
    have hmid : w3.heap.size ≤ mid := HOX.out.hl.1
    have G1 := SOw.wide (sow4 (r1 := w.heap.size + 1) (r2 := w.heap.size + 1 + 1) HOX.out (show w.heap.size + 1 < w3.heap.size by omega) (show w.heap.size + 1 + 1 < w3.heap.size by omega) (.slice ra X.l.length rc) (.slice rx X.n rd) (.slice ra' Y.l.length rc') (.slice rx' Y.n rd')) (lo' := w.heap.size) (hi' := mid) (by omega) (Nat.le_refl _) (by simp [World.setCell]; exact Nat.le_trans HOY.out.hl.1 HOY.out.hl.2)
    have G2 := sow4 (r1 := w.heap.size + 1) (r2 := w.heap.size + 1 + 1) HOY.out (show w.heap.size + 1 < mid by omega) (show w.heap.size + 1 + 1 < mid by omega) (.slice ra X.l.length rc) (.slice rx X.n rd) (.slice ra' Y.l.length rc') (.slice rx' Y.n rd')
    rw [size4]
    first
     | exact ⟨ra, rc, rx, rd, ra', rc', rx', rd', mid, rfl, G1, G2, G3⟩
     | exact ⟨ra, rc, rx, rd, ra', rc', rx', rd', rfl, mid, G1, G2, G3⟩
   ·have HR := hid (repOk_no rep w2 hr)
    have HZ := hid (se_3 (S := S) (rep := rep) (p := p) (fl := true) (on := false) (v := ⟨#[]⟩) HOC.out (fun h => hr h.1))
    clear hr
    go_wp2_with fail
    try rw [hw2]
    refine HR.out.mono ?_
    rintro e w9 ⟨rfl, rfl⟩
    clear HR hw2 x0' x1' x2'
    have TB := twoB HRR1.out HRR2.out (show w.heap.size + 1 ≠ w.heap.size + 1 + 1 by omega) (.slice none 0 0) (.slice none 0 0) (.slice none 0 0) (.slice none 0 0)
    have r0 := HRR1.out.c0
    have r1 := HRR1.out.c1
    have rf := HRR1.out.f
    have q0 := TB.1.c0
    have q1 := TB.1.c1
    have qf := TB.1.f
    have HTW := hid TB.2
    clear TB
    go_wp2_with fail
    obtain ⟨X1, X2⟩ := HTW.out
    refine bodyPost_ret (v := .tuple #[.agg #[.slice none 0 0, .slice none 0 0], .agg #[.slice none 0 0, .slice none 0 0], .int .i64 3]) (by simp [results, Tryz.results20, go_sem, X1.c0, X1.c1, X2.c0, X2.c1]) rfl ?_
    rw [HZ.out.1, HZ.out.2.1, HZ.out.2.2]
    have G3 := below4 HBB.out (show w.heap.size ≤ w.heap.size + 1 by omega) (show w.heap.size ≤ w.heap.size + 1 + 1 by omega) (.slice none 0 0) (.slice none 0 0) (.slice none 0 0) (.slice none 0 0)
    have G1 : SOw _ w.heap.size w.heap.size none none 0 Sx.mt := SOw.mt _ Sx.mt rfl rfl _ _ ⟨Nat.le_refl _, G3.size⟩ _ _ _
    have G2 : SOw _ w.heap.size _ none none 0 Sx.mt := SOw.emp _ _ _ _ _ G3.size
    first
     | exact ⟨none, 0, none, 0, none, 0, none, 0, w.heap.size, rfl, G1, G2, G3⟩
     | exact ⟨none, 0, none, 0, none, 0, none, 0, rfl, w.heap.size, G1, G2, G3⟩
 ·have HZ : Hid (seX S rep p true on ⟨#[]⟩ = Sx.mt ∧ seY S rep p true on ⟨#[]⟩ = Sx.mt ∧ seC S rep p true on ⟨#[]⟩ = C) := hid (by
   have := se_n (S := S) (rep := rep) (p := p) (fl := true) (on := on) (v := ⟨#[]⟩) (by rw [HC.out]; exact hz)
   rw [HC.out] at this; exact this)
  have hcz : (C == 0) = false := by simp [hz]
  have TB := twoB HRR1.out HRR2.out (show w.heap.size + 1 ≠ w.heap.size + 1 + 1 by omega) (.slice none 0 0) (.slice none 0 0) (.slice none 0 0) (.slice none 0 0)
  have r0 := HRR1.out.c0
  have r1 := HRR1.out.c1
  have rf := HRR1.out.f
  have q0 := TB.1.c0
  have q1 := TB.1.c1
  have qf := TB.1.f
  have HTW := hid TB.2
  clear TB
  go_wp2_with fail
  try rw [hw2]
  obtain ⟨X1, X2⟩ := HTW.out
  refine bodyPost_ret (v := .tuple #[.agg #[.slice none 0 0, .slice none 0 0], .agg #[.slice none 0 0, .slice none 0 0], .int .i64 C]) (by simp [results, Tryz.results20, go_sem, X1.c0, X1.c1, X2.c0, X2.c1]) rfl ?_
  rw [HZ.out.1, HZ.out.2.1, HZ.out.2.2]
  have G3 := below4 HBB.out (show w.heap.size ≤ w.heap.size + 1 by omega) (show w.heap.size ≤ w.heap.size + 1 + 1 by omega) (.slice none 0 0) (.slice none 0 0) (.slice none 0 0) (.slice none 0 0)
  have G1 : SOw _ w.heap.size w.heap.size none none 0 Sx.mt := SOw.mt _ Sx.mt rfl rfl _ _ ⟨Nat.le_refl _, G3.size⟩ _ _ _
  have G2 : SOw _ w.heap.size _ none none 0 Sx.mt := SOw.emp _ _ _ _ _ G3.size
  first
   | exact ⟨none, 0, none, 0, none, 0, none, 0, w.heap.size, rfl, G1, G2, G3⟩
   | exact ⟨none, 0, none, 0, none, 0, none, 0, rfl, w.heap.size, G1, G2, G3⟩
end Go.Proofs.YtcbcabhjododoaaGreat
namespace Go.Proofs.YtcbcabhjododoaaGreat
open Go.ChangeShapes Go.WideShapes Go.ChangeAt Go.RowKit
theorem mt_sm : Sx.mt.Sm := ⟨by simp [Sx.mt], fun i => by simp [Sx.mt, gL], by simp [Sx.mt]⟩
theorem sm_of {S : Sx} (h1 : S.l.length ≤ 1000) (h2 : S.n ≤ 1000) (h3 : ∀ x ∈ S.l, x.p.length ≤ 8) : S.Sm := ⟨by omega, fun i => by
 by_cases hi : i < S.l.length
 ·have := h3 _ (gL_mem.2 ⟨i, hi, rfl⟩); omega
 ·rw [gL_far hi]; simp, by omega⟩
theorem ch_sm {S D : Sx} (hs : StW S.R S.F S.T S.n S.l) (hd : StW D.R D.F D.T D.n D.l) : (chX S D).Sm ∧ (chY S D).Sm := by
 cases h : chF S D with
 | false => obtain ⟨e1, e2, _⟩ := ch_f h; rw [e1, e2]; exact ⟨mt_sm, mt_sm⟩
 | true =>
  obtain ⟨e1, e2, _⟩ := ch_t h
  rw [e1, e2]
  unfold chF jnF at h
  simp only [Bool.and_eq_true, decide_eq_true_eq] at h
  exact ⟨sm_of h.1.1 h.1.2 (fun x hx => (jn_bd hs hd x hx).2.2.2), sm_of h.2.1 h.2.2 (fun x hx => (st_bd hd x hx).2.2.2)⟩
theorem se_sm (S : Sx) (rep : Int) (p : List ByteArray) (fl on : Bool) (v : ByteArray) (hf : fl = true → emB v = true) : (seX S rep p fl on v).Sm ∧ (seY S rep p fl on v).Sm := by
 by_cases h : ocC S p v = 0
 ·have hk := ocC_ok h
  have hs := stB_t hk.1
  by_cases hn : seOk S rep on
  ·obtain ⟨e1, e2, _⟩ := se_t (fl := fl) h hn
   rw [e1, e2]; exact ch_sm hs.w (dl_w hs (se_pto hs hk.2.1 hk.2.2 hf hn))
  ·obtain ⟨e1, e2, _⟩ := se_3 (fl := fl) h hn
   rw [e1, e2]; exact ⟨mt_sm, mt_sm⟩
 ·obtain ⟨e1, e2, _⟩ := se_n (rep := rep) (fl := fl) (on := on) h
  rw [e1, e2]; exact ⟨mt_sm, mt_sm⟩
theorem openPath {H : Type} {enc : TypeId × Value → H} {W : World} {r : Reach} {b0 base : Nat} {spare : Nat → Bool} {held : Bool} {v : Value} {d : DataW H} {q : List MemPlace}
  (hval : Value.okWide Tryz.prog W r b0 28 v) (h : DataW.Trod enc Tryz.prog W base spare held 28 v d q) :
  ∃ a p c, v = .slice a p.length c ∧ SSeg W a p ∧ PBig p := by
 obtain ⟨a0, len0, cap0, rfl⟩ := okWide_slice Tryz.underlying28 hval
 obtain ⟨fuel, hf⟩ := h
 obtain ⟨a, p, c, hcs, h1, h2⟩ := openStrs hf
 simp [Value.cells] at hcs
 obtain ⟨rfl, rfl, rfl⟩ := hcs
 exact ⟨_, p, _, rfl, h1, h2⟩
theorem PMk.lowC {w w' : World} {g n : Nat} (h : PMk w g n) (hb : Below w.heap.size w w') : PMk w' g n := by
 obtain ⟨cur, h1, h2⟩ := h
 exact ⟨cur, (hb.block g (Array.getElem?_eq_some_iff.1 h1).1).trans h1, h2⟩
structure GL (w6 wk : World) (vx : Value × Value) (bx lo hi g k ps : Nat) (S : Sx) (p : List ByteArray) (l1 l2 l3 : Nat) (ga gx : Option Addr) (gd : Nat) (ga' gx' : Option Addr) (gd' gb : Nat) (vb vb' : Value × Value) (X Y : Sx) : Prop where
 kk : Below w6.heap.size w6 wk
 xb : Bx2 wk bx vx.1 vx.2
 sn : SNw wk lo hi g k S
 st : SSeg wk (some ⟨ps, 0, none⟩) p
 pm : PMk wk ps p.length
 ox : SOw wk l1 l2 ga gx gd X
 oy : SOw wk l2 l3 ga' gx' gd' Y
 b1 : Bx2 wk gb vb.1 vb.2
 b2 : Bx2 wk (gb + 1) vb'.1 vb'.2
structure GM (w6 wk : World) (l1 l2 l3 : Nat) (ga gx : Option Addr) (gd : Nat) (ga' gx' : Option Addr) (gd' gb : Nat) (vb vb' : Value × Value) (X Y : Sx) : Prop where
 kk : Below w6.heap.size w6 wk
 ox : SOw wk l1 l2 ga gx gd X
 oy : SOw wk l2 l3 ga' gx' gd' Y
 b1 : Bx2 wk gb vb.1 vb.2
 b2 : Bx2 wk (gb + 1) vb'.1 vb'.2
section
variable {w6 wk w' : World} {vx : Value × Value} {bx lo hi g k ps : Nat} {S : Sx} {p : List ByteArray} {l1 l2 l3 : Nat} {ga gx : Option Addr} {gd : Nat} {ga' gx' : Option Addr} {gd' gb : Nat} {vb vb' : Value × Value} {X Y : Sx}
theorem GL.below (h : GL w6 wk vx bx lo hi g k ps S p l1 l2 l3 ga gx gd ga' gx' gd' gb vb vb' X Y) (hb : Below wk.heap.size wk w') : GL w6 w' vx bx lo hi g k ps S p l1 l2 l3 ga gx gd ga' gx' gd' gb vb vb' X Y :=
 ⟨h.kk.trans (hb.mono h.kk.size), h.xb.below hb h.xb.lt, h.sn.below hb, h.st.below hb, h.pm.lowC hb, h.ox.below hb, h.oy.below hb, h.b1.below hb h.b1.lt, h.b2.below hb h.b2.lt⟩
theorem GM.below (h : GM w6 wk l1 l2 l3 ga gx gd ga' gx' gd' gb vb vb' X Y) (hb : Below wk.heap.size wk w') : GM w6 w' l1 l2 l3 ga gx gd ga' gx' gd' gb vb vb' X Y :=
 ⟨h.kk.trans (hb.mono h.kk.size), h.ox.below hb, h.oy.below hb, h.b1.below hb h.b1.lt, h.b2.below hb h.b2.lt⟩
theorem GL.btw (h : GL w6 wk vx bx lo hi g k ps S p l1 l2 l3 ga gx gd ga' gx' gd' gb vb vb' X Y) (hb : Btw lo hi wk w') (h1 : w6.heap.size ≤ lo) (h2 : hi ≤ l1) (h3 : hi ≤ ps) (h4 : l3 ≤ gb) : GM w6 w' l1 l2 l3 ga gx gd ga' gx' gd' gb vb vb' X Y ∧ PMk w' ps p.length := by
 have e1 := h.ox.hl
 have e2 := h.oy.hl
 refine ⟨⟨hb.lowJ h.kk h1 h.kk.size, h.ox.same hb.size (fun q a1 a2 => hb.block q (Nat.lt_of_lt_of_le a2 e1.2) (.inr (by omega))), h.oy.same hb.size (fun q a1 a2 => hb.block q (Nat.lt_of_lt_of_le a2 e2.2) (.inr (by omega))), h.b1.btw hb (.inr (by omega)), h.b2.btw hb (.inr (by omega))⟩, ?_⟩
 obtain ⟨cur, c1, c2⟩ := h.pm
 exact ⟨cur, (hb.block ps (Array.getElem?_eq_some_iff.1 c1).1 (.inr h3)).trans c1, c2⟩
theorem GM.grown {q0 : Nat} (h : GM w6 wk l1 l2 l3 ga gx gd ga' gx' gd' gb vb vb' X Y) (hg : wk.grownBy w' (some q0)) (h1 : w6.heap.size ≤ q0) (h2 : q0 < l1) (h4 : l3 ≤ gb) : GM w6 w' l1 l2 l3 ga gx gd ga' gx' gd' gb vb vb' X Y := by
 have e1 := h.ox.hl
 have e2 := h.oy.hl
 exact ⟨h.kk.grown hg h.kk.size (fun k e => by injection e with e; omega), h.ox.same hg.size (fun q a1 a2 => hg.block q (Nat.lt_of_lt_of_le a2 e1.2) (fun e => by injection e with e; omega)), h.oy.same hg.size (fun q a1 a2 => hg.block q (Nat.lt_of_lt_of_le a2 e2.2) (fun e => by injection e with e; omega)), h.b1.gr hg (fun k e => by injection e with e; omega), h.b2.gr hg (fun k e => by injection e with e; omega)⟩
end
end Go.Proofs.YtcbcabhjododoaaGreat
