import Derived.Test.YtcbcabhjododoaaGreatFg42
import Derived.Test.YtcbcabhjododoaaGreatFg43
set_option linter.unusedVariables false
set_option linter.unusedSimpArgs false
set_option maxRecDepth 100000
set_option maxHeartbeats 40000000
namespace Go.Proofs.YtcbcabhjododoaaGreat
open Go.ChangeShapes Go.WideShapes Go.ChangeAt Go.RowKit Go.Maps
theorem pth_size {p : List ByteArray} (h : PthOk p) : ∀ i, (gS p i).size ≤ 1048576 := fun i => by
 by_cases hi : i < p.length
 ·have := (h.2.2 i hi).2; omega
 ·rw [gS_far (by omega)]; simp
theorem GrpAt.gtX {w w' : World} {B bm n : Nat} {D : DataW Value} {G : Int → Value} {L : Int → List (Int × Int)} (h : GrpAt w bm n D G L) (hg : Gt B w w') (hX : w'.heap[bm]? = w.heap[bm]?) : GrpAt w' bm n D G L := by
 refine ⟨?_, h.at', h.has', fun r => ?_, h.apart⟩
 ·obtain ⟨es, cl, e, k⟩ := h.own
  exact ⟨es, cl, hX.trans e, k⟩
 ·refine ⟨(h.rows r).1, (h.rows r).2.imp id ?_⟩
  rintro ⟨g, cap, cur, e, hb, hh, k⟩
  exact ⟨g, cap, cur, e, hb, (hg.block g ((h.rows r).lt g (by rw [e]; rfl)).2 (.inr fun es cl e2 => by rw [hh] at e2; cases e2)).trans hh, k⟩
theorem topK_ge {R T : Nat → Int} {rep : Int} : ∀ {n k : Nat}, k < n → R k = rep → T k ≤ topK R T rep n
 | 0, k, h, _ => by omega
 | n + 1, k, h, e => by
  have mono : topK R T rep n ≤ topK R T rep (n + 1) := by
   show _ ≤ (if R n = rep ∧ topK R T rep n < T n then T n else topK R T rep n)
   split <;> omega
  by_cases ek : k = n
  ·subst ek
   show _ ≤ (if R k = rep ∧ topK R T rep k < T k then T k else topK R T rep k)
   split
   ·omega
   ·next hn => exact Int.not_lt.1 (fun hlt => hn ⟨e, hlt⟩)
  ·exact Int.le_trans (topK_ge (by omega) e) mono
def nxOk (S : Sx) (rep : Int) : Prop := (0 ≤ rep ∧ rep < 8) ∧ topK S.R S.T rep S.n + 1 ≤ 1000000000
def nxY (S : Sx) (rep : Int) (p : List ByteArray) (fl : Bool) (v : ByteArray) : Lf := ⟨p, fl, rep, topK S.R S.T rep S.n + 1, v⟩
theorem nx_pto {S : Sx} {rep : Int} {p : List ByteArray} {fl : Bool} {v : ByteArray} (hs : StOk S.R S.F S.T S.n S.l) (hp : PthOk p) (hv : v.size ≤ 200) (hf : fl = true → emB v = true) (h : nxOk S rep) : PtO S [nxY S rep p fl v] := by
 have hb := topK_bd hs.1 rep
 have h2 := h.2
 have h1 := h.1
 refine ⟨by simp, fun y hy => ?_, fun y hy => ?_, fun y hy hx => ?_⟩
 ·rw [List.mem_singleton.1 hy]; exact ⟨hp, hv, hf⟩
 ·rw [List.mem_singleton.1 hy]
  unfold Rok dtR nxY; simp only; omega
 ·rw [List.mem_singleton.1 hy] at hx
  obtain ⟨k, hk, e1, e2, e3⟩ := jhas_at S.R S.F S.T _ _ _ S.n hx
  have := topK_ge (R := S.R) (T := S.T) (rep := rep) hk (by first | exact e1 | exact e1.symm)
  unfold nxY at e3; simp only at e3; omega
noncomputable def wrD (S : Sx) (rep : Int) (p : List ByteArray) (fl : Bool) (v : ByteArray) : Sx := dlS (gnS p fl) S.l [nxY S rep p fl v]
noncomputable def wrX (S : Sx) (rep : Int) (p : List ByteArray) (fl : Bool) (v : ByteArray) : Sx := if yes (nxOk S rep) then chX S (wrD S rep p fl v) else Sx.mt
noncomputable def wrY (S : Sx) (rep : Int) (p : List ByteArray) (fl : Bool) (v : ByteArray) : Sx := if yes (nxOk S rep) then chY S (wrD S rep p fl v) else Sx.mt
noncomputable def wrC (S : Sx) (rep : Int) (p : List ByteArray) (fl : Bool) (v : ByteArray) : Int := if yes (nxOk S rep) then chC S (wrD S rep p fl v) else 3
section
variable {S : Sx} {rep : Int} {p : List ByteArray} {fl : Bool} {v : ByteArray}
theorem wr_t (h : nxOk S rep) : wrX S rep p fl v = chX S (wrD S rep p fl v) ∧ wrY S rep p fl v = chY S (wrD S rep p fl v) ∧ wrC S rep p fl v = chC S (wrD S rep p fl v) := by unfold wrX wrY wrC; rw [yes_t h]; exact ⟨rfl, rfl, rfl⟩
theorem wr_f (h : ¬ nxOk S rep) : wrX S rep p fl v = Sx.mt ∧ wrY S rep p fl v = Sx.mt ∧ wrC S rep p fl v = 3 := by unfold wrX wrY wrC; rw [yes_f h]; exact ⟨rfl, rfl, rfl⟩
end
theorem dr_one (w : World) (r q : Int) : DR (w.alloc (.cells #[.int .i64 r, .int .i64 q] 55)) w.heap.size (.slice (some ⟨w.heap.size, 0, none⟩) 1 1) [(r, q)] := by
 have := World.ownsRow_lit (base := w.heap.size) (e := 55) (size := 2) w #[.int .i64 r, .int .i64 q] 1 (Nat.le_refl _) (by unfold maxLen; omega) rfl
 simpa [DR, Ds.kRow, Ds.kCells] using this
theorem iseg_one (w : World) (k : Int) : ISeg (w.alloc (.cells #[.int .i64 k] 3)) w.heap.size [k] := ⟨by simp, fun i hi => by
 obtain rfl : i = 0 := by simpa using hi
 simp [gI]⟩
theorem cutW {G T : Prop} (h : Hid T → G) (k : T) : G := h k
theorem writeC {x0 : Nat × Nat} {bm : Nat} {S : Sx} (rep : Int) (p : List ByteArray) (a : Option Addr) (cp : Nat) (fl : Bool) (v : ByteArray) (w : World) (h : OpA w x0 bm S) (hs : StOk S.R S.F S.T S.n S.l) (hpo : PthOk p) (hv : v.size ≤ 200) (hfv : fl = true → emB v = true) (hrep : (Lit.int .i64 rep).wf = true) (hseg : SSeg w a p) :
  Calls Tryz.prog 39 #[.agg #[.map (some x0.1), .map (some x0.2), .map (some bm)], .int .i64 rep, .slice a p.length cp, .int .i64 (kd fl), .agg #[.string v]] w fun e w' => ∃ a c x d a' c' x' d' mid, e = .returned (.tuple #[.agg #[.slice a (wrX S rep p fl v).l.length c, .slice x (wrX S rep p fl v).n d], .agg #[.slice a' (wrY S rep p fl v).l.length c', .slice x' (wrY S rep p fl v).n d'], .int .i64 (wrC S rep p fl v)]) ∧ SOw w' w.heap.size mid a x d (wrX S rep p fl v) ∧ SOw w' mid w'.heap.size a' x' d' (wrY S rep p fl v) ∧ Below w.heap.size w w' := by
 obtain ⟨W, hW⟩ : ∃ W, (((w.alloc (.cells #[.map (some x0.1), .map (some x0.2), .map (some bm)] 68)).alloc (.cells #[.string v] 80)).alloc (.cells #[.slice none 0 0, .slice none 0 0] 36)).alloc (.cells #[.slice none 0 0, .slice none 0 0] 36) = W := ⟨_, rfl⟩
 have b0 : Below w.heap.size w W := by rw [← hW]; exact ((below2 _ _ _).alloc (by simp; omega) _).alloc (by simp; omega) _
 have zW : W.heap.size = w.heap.size + 4 := by rw [← hW]; simp
 have al : ∀ (v : World) (o : Obj), Below v.heap.size v (v.alloc o) := fun v o => (Below.refl _ _).alloc (Nat.le_refl _) _
 have A0 : Bx3 W w.heap.size (.map (some x0.1)) (.map (some x0.2)) (.map (some bm)) := by
  rw [← hW]
  exact (((Bx3.made w _ _ _ _).below (al _ _) (by simp)).below (al _ _) (by simp; try omega)).below (al _ _) (by simp; try omega)
 have M0 : Bx1 W (w.heap.size + 1) (.string v) := by
  rw [← hW]
  have := Bx1.made (w.alloc (.cells #[.map (some x0.1), .map (some x0.2), .map (some bm)] 68)) (.string v) 80
  exact ((by simpa using this : Bx1 _ (w.heap.size + 1) _).below (al _ _) (by simp)).below (al _ _) (by simp; try omega)
 have R0 : Bx2 W (w.heap.size + 1 + 1) (.slice none 0 0) (.slice none 0 0) := by
  rw [← hW]
  have := Bx2.made ((w.alloc (.cells #[.map (some x0.1), .map (some x0.2), .map (some bm)] 68)).alloc (.cells #[.string v] 80)) (.slice none 0 0) (.slice none 0 0) 36
  exact (by simpa using this : Bx2 _ (w.heap.size + 1 + 1) _ _).allocs _
 have Q0 : Bx2 W (w.heap.size + 1 + 1 + 1) (.slice none 0 0) (.slice none 0 0) := by
  rw [← hW]
  simpa using Bx2.made (((w.alloc (.cells #[.map (some x0.1), .map (some x0.2), .map (some bm)] 68)).alloc (.cells #[.string v] 80)).alloc (.cells #[.slice none 0 0, .slice none 0 0] 36)) (.slice none 0 0) (.slice none 0 0) 36
 have hcx := ctxB_iff.1 hs.1
 have htq := (Lk_inv S.n hcx.1).2.2.1 rep
 have hbd := topK_bd hs.1 rep
 obtain ⟨tq, hTQ⟩ : ∃ tq, topK S.R S.T rep S.n = tq := ⟨_, rfl⟩
 have HTQ := hid hTQ
 have HNX : Hid (nxOk S rep ↔ (0 ≤ rep ∧ rep < 8) ∧ tq + 1 ≤ 1000000000) := hid (by unfold nxOk; rw [hTQ])
 obtain ⟨n0, D0, G0, N0, B0, hn0, hg0, _⟩ := h.below b0
 have HNE := hid (runNext hg0 rep tq hrep (by have := Lk_len S.R S.F S.T S.n rep; have := hcx.2; omega) (htq.symm.trans hTQ) (by omega) (by omega))
 have HO := hid (h.below b0)
 have HS := hid hs
 have HPO := hid hpo
 have HVF : Hid (v.size ≤ 200 ∧ (fl = true → emB v = true)) := hid ⟨hv, hfv⟩
 have HRW := hid hrep
 have HSG := hid (hseg.below b0)
 have HA0 := hid A0
 have HM0 := hid M0
 have HR0 := hid R0
 have HQ0 := hid Q0
 have HB0 := hid b0
 have HZW := hid zW
 have k0 := A0.c0
 have k1 := A0.c1
 have k2 := A0.c2
 obtain ⟨kk, hkk⟩ : ∃ kk, kd fl = kk := ⟨_, rfl⟩
 have HKK := hid hkk
 rw [hkk]
 clear b0 zW A0 M0 R0 Q0 al h hs hseg hcx htq hbd hTQ hg0 hn0 hpo hv hfv hrep hkk
 go_enter Tryz.func39, Tryz.ntmps39
 go_wp2_with fail
 try rw [hW]
 clear hW
 refine HNE.out.mono ?_
 rintro e w1 ⟨hy, hno, b1⟩
 have HB1 := hid b1
 have HR1 := hid (HR0.out.below b1 HR0.out.lt)
 have HQ1 := hid (HQ0.out.below b1 HQ0.out.lt)
 have HA1 := hid (HA0.out.below b1 HA0.out.lt)
 clear b1 k0 k1 k2 HNE
 by_cases hc : (0 ≤ rep ∧ rep < 8) ∧ tq + 1 ≤ 1000000000
 ·have e1 := hy hc
  clear hy hno
  subst e1
  have HOKN : Hid (nxOk S rep) := hid (HNX.out.2 hc)
  have HZ := hid (wr_t (S := S) (rep := rep) (p := p) (fl := fl) (v := v) HOKN.out)
  obtain ⟨q, hq⟩ : ∃ q, tq + 1 = q := ⟨_, rfl⟩
  have HQV : Hid (nxY S rep p fl v = ⟨p, fl, rep, q, v⟩) := hid (by unfold nxY; rw [HTQ.out, hq])
  have HQB : Hid ((0 ≤ rep ∧ rep < 8) ∧ q ≤ 1000000000) := hid (by rw [← hq]; exact hc)
  have HPT : Hid (PtO S [⟨p, fl, rep, q, v⟩]) := hid (by rw [← HQV.out]; exact nx_pto HS.out HPO.out HVF.out.1 HVF.out.2 HOKN.out)
  have HZD : Hid (wrD S rep p fl v = dlS (gnS p fl) S.l [⟨p, fl, rep, q, v⟩]) := hid (by unfold wrD; rw [HQV.out])
  rw [hq]
  clear hc hq
  obtain ⟨w2, hw2⟩ : ∃ w2, w1.alloc (.cells #[.int .i64 rep, .int .i64 q] 55) = w2 := ⟨_, rfl⟩
  have b2 : Below w1.heap.size w1 w2 := by rw [← hw2]; exact (Below.refl _ _).alloc (Nat.le_refl _) _
  have HD2 : Hid (Bx2 w2 w1.heap.size (.int .i64 rep) (.int .i64 q)) := hid (by rw [← hw2]; exact Bx2.made _ _ _ _)
  have HB2 := hid (keepS HB1.out b2)
  have HA2 := hid (HA1.out.below b2 HA1.out.lt)
  have HSE : Hid (∀ w', Below w2.heap.size w2 w' → (w'.cell? ⟨w.heap.size, 0, none⟩ = some (.map (some x0.1)) ∧ w'.cell? ⟨w.heap.size, 1, none⟩ = some (.map (some x0.2)) ∧ w'.cell? ⟨w.heap.size, 2, none⟩ = some (.map (some bm)) ∧ w'.cell? ⟨w1.heap.size, 0, none⟩ = some (.int .i64 rep) ∧ w'.cell? ⟨w1.heap.size, 1, none⟩ = some (.int .i64 q))) := hid (fun w' b => by
   have A1 := HA2.out.below b HA2.out.lt
   have D1 := HD2.out.below b HD2.out.lt
   exact ⟨A1.c0, A1.c1, A1.c2, D1.c0, D1.c1⟩)
  have HDA : Hid (∀ w' g, Below w2.heap.size w2 w' → ISeg w' g [kk] → Calls Tryz.prog 56 #[.agg #[.map (some x0.1), .map (some x0.2), .map (some bm)], .slice a p.length cp, .slice (some ⟨g, 0, none⟩) 1 1] w' fun e w'' => (∃ v ts, e = .returned v ∧ DR w'' w'.heap.size v ts ∧ (∀ d : Dt, d ∈ ts ↔ ∃ y, (y ∈ S.l ∧ gnS p fl y) ∧ y.r = d.1 ∧ y.q = d.2) ∧ ts.length ≤ 1000) ∧ Below w'.heap.size w' w'') := hid (fun w' g b hi => by
   obtain ⟨N, B, hT, hroot⟩ := (HO.out.below HB2.out).tj HS.out.2.2.2
   have h8 : ∀ x ∈ S.l, (Way x).length ≤ 8 := fun x hx => way8 (st_bd HS.out.w x hx).2.2.2
   have hp8 := HPO.out.2.1
   refine (dotsAtC hT hroot (by have := HS.out.2.1; omega) HS.out.2.1 h8 p a cp bm g 1 [kk] (by omega) (pth_size HPO.out) (fun k hk => ?_) (by simp) w' b ((HSG.out.below HB2.out).below b) hi).mono ?_
   ·rw [List.mem_singleton.1 hk, ← HKK.out]
    rcases kd_or fl with e | e <;> rw [e] <;> decide
   ·rintro e w'' ⟨⟨v1, ts, he, hd1, hm1, hl1⟩, b1⟩
    refine ⟨⟨v1, ts, he, hd1, fun d => ?_, ?_⟩, b1⟩
    ·rw [hm1 d]
     have h0 : 0 < p.length := HPO.out.1
     constructor
     ·rintro ⟨k, hk, x, hx, hpre, e⟩
      rw [List.mem_singleton.1 hk, ← HKK.out] at hpre
      exact ⟨x, ⟨hx, (way_gnS h0).1 hpre⟩, congrArg Prod.fst e, congrArg Prod.snd e⟩
     ·rintro ⟨y, ⟨hy, hg⟩, e1, e2⟩
      exact ⟨kk, List.mem_singleton.2 rfl, y, hy, by rw [← HKK.out]; exact (way_gnS h0).2 hg, Prod.ext e1 e2⟩
    ·rw [hl1]
     have h1 := cW3 (p := p) HPO.out.1 S.l
     have h2 := HS.out.2.1
     rw [← HKK.out]
     rcases kd_or fl with e | e <;> rw [e] <;> simp <;> omega)
  clear b2
  go_wp2_with fail
  try rw [hw2]
  clear hw2
  apply cutW
  ·intro key
   refine wp_region_held_drew (S := fun w' => w'.cell? ⟨w.heap.size, 0, none⟩ = some (.map (some x0.1)) ∧ w'.cell? ⟨w.heap.size, 1, none⟩ = some (.map (some x0.2)) ∧ w'.cell? ⟨w.heap.size, 2, none⟩ = some (.map (some bm)) ∧ w'.cell? ⟨w1.heap.size, 0, none⟩ = some (.int .i64 rep) ∧ w'.cell? ⟨w1.heap.size, 1, none⟩ = some (.int .i64 q)) (by kernel_rfl) (HSE.out _ (Below.refl _ _).drew) (fun hHeld => ?_)
   refine tk 0 28 ?_ (by kernel_rfl) (fun _ _ _ h => h) ?_ hHeld (tk 1 29 ?_ (by kernel_rfl) (fun _ _ _ h => h) ?_ hHeld (tk 2 30 ?_ (by kernel_rfl) (fun _ _ _ h => h) ?_ hHeld (tk 5 33 ?_ (by kernel_rfl) (fun _ _ _ h => h) ?_ hHeld ?_)))
   iterate 4 (rotate_left; focus (intro o ho; simp only [gZa, gZb, gZc, gZd] at ho; subst ho; refine Or.inl ⟨by rfl, ?_⟩; intro w hSw; (try dsimp only at hSw); (try simp only [Act.put, sZa, sZb, sZc]); go_simp; try with_reducible rfl))
   try simp only [Act.put, sZa, sZb, sZc]
   obtain ⟨u0, hu0⟩ : ∃ u0, w2.drew = u0 := ⟨_, rfl⟩
   have c0 : Below w2.heap.size w2 u0 := by rw [← hu0]; exact (Below.refl _ _).drew
   rw [hu0]
   clear hu0
   refine ready2t (i := 3) (j := 6) (d := some 31) (d' := some 34) (by kernel_rfl) (by kernel_rfl) (by kernel_rfl) ?_ ?_
   ·skip
    intro o ho hod K hK; simp only [gZa, gZb, gZc, gZd] at ho; subst ho
    go_simp
    obtain ⟨u1, hu1⟩ : ∃ u1, u0.alloc (.cells #[.int .i64 kk] 3) = u1 := ⟨_, rfl⟩
    have iu1 : ISeg u1 u0.heap.size [kk] := by rw [← hu1]; exact iseg_one _ _
    have du1 : Below u0.heap.size u0 u1 := by rw [← hu1]; exact (Below.refl _ _).alloc (Nat.le_refl _) _
    rw [hu1]
    clear hu1
    have c1 := keepS c0 du1
    refine hK.out _ _ (HSE.out _ c1) (fun hHeld => ?_)
    clear hK K
    try simp only [Act.put, sZa, sZb, sZc]
    refine ready2t (i := 4) (j := 6) (d := some 32) (d' := some 34) (by kernel_rfl) (by kernel_rfl) (by kernel_rfl) ?_ ?_
    ·skip
     intro o ho hod K hK; simp only [gZa, gZb, gZc, gZd] at ho; subst ho
     go_simp
     refine (HDA.out _ _ c1 iu1).mono ?_
     rintro e u2 ⟨⟨v3, ts, rfl, ru2, mu2, nu2⟩, du2⟩
     have c2 := keepS c1 du2
     refine hK.out _ _ (HSE.out _ c2) (fun hHeld => ?_)
     clear hK K
     try simp only [Act.put, sZa, sZb, sZc]
     refine call1 (i := 6) (d := some 34) (by kernel_rfl) (by kernel_rfl) ?_
     intro o ho hod K hK; simp only [gZa, gZb, gZc, gZd] at ho; subst ho
     go_simp
     obtain ⟨u3, hu3⟩ : ∃ u3, u2.alloc (.cells #[.int .i64 rep, .int .i64 q] 55) = u3 := ⟨_, rfl⟩
     have lu3 : DR u3 u2.heap.size (.slice (some ⟨u2.heap.size, 0, none⟩) 1 1) [(rep, q)] := by rw [← hu3]; exact dr_one _ _ _
     have du3 : Below u2.heap.size u2 u3 := by rw [← hu3]; exact (Below.refl _ _).alloc (Nat.le_refl _) _
     rw [hu3]
     clear hu3
     have c3 := keepS c2 du3
     refine hK.out _ _ (HSE.out _ c3) (fun hHeld => ?_)
     clear hK K
     try simp only [Act.put, sZa, sZb, sZc]
     have z1 := du2.size
     have z2 := du3.size
     have z3 := du1.size
     have z4 := c0.size
     have hlo : u1.heap.size ≤ u3.heap.size := by omega
     obtain ⟨v6, w6, happ, r6, g6⟩ := dotsApp u1.heap.size u2.heap.size v3 (.slice (some ⟨u2.heap.size, 0, none⟩) 1 1) ts [(rep, q)] u3 102 (ru2.below du3) lu3 hlo (by simp; omega)
     have hB6 : Below w2.heap.size w2 w6 := c3.grown g6.1 c3.size (fun k e => by
      have h1 := (World.ownsRow.lt (ru2.below du3) k e).1
      omega)
     obtain ⟨ds, hds⟩ : ∃ ds, ts ++ [(rep, q)] = ds := ⟨_, rfl⟩
     rw [hds] at r6
     have hl6 : ds.length ≤ 1001 := by rw [← hds]; simp; omega
     have hm6 : ∀ d : Dt, d ∈ ds ↔ (∃ y, (y ∈ S.l ∧ gnS p fl y) ∧ y.r = d.1 ∧ y.q = d.2) ∨ ∃ y ∈ [(⟨p, fl, rep, q, v⟩ : Lf)], y.r = d.1 ∧ y.q = d.2 := fun d => by
      rw [← hds, List.mem_append, mu2 d, List.mem_singleton]
      constructor
      ·rintro (e | e)
       ·exact .inl e
       ·exact .inr ⟨_, List.mem_singleton.2 rfl, by rw [e], by rw [e]⟩
      ·rintro (e | ⟨y, hy, e1, e2⟩)
       ·exact .inl e
       ·rw [List.mem_singleton.1 hy] at e1 e2
        exact .inr (Prod.ext e1.symm e2.symm)
     obtain ⟨ta, tc, rfl, hsg6, hx1, hx2⟩ := own_dseg r6
     clear hds
     refine call1 (i := 7) (d := some 35) (by kernel_rfl) (by kernel_rfl) ?_
     intro o ho hod K hK; simp only [gZa, gZb, gZc, gZd] at ho; subst ho
     refine wp_app2 _ _ _ _ rfl happ (by rfl) (by rfl) rfl ?_
     refine hK.out _ _ (HSE.out _ hB6) (fun hHeld => ?_)
     clear hK K
     try simp only [Act.put, sZa, sZb, sZc]
     refine tk 8 15 ?_ (by kernel_rfl) (fun _ _ _ h => h) ?_ hHeld ?_
     rotate_left
     ·(intro o ho; simp only [gZa, gZb, gZc, gZd] at ho; subst ho; refine Or.inl ⟨by rfl, ?_⟩; intro w hSw; (try dsimp only at hSw); go_simp; try with_reducible rfl)
     try simp only [Act.put, sZa, sZb, sZc]
     refine wpAnyH_done (by kernel_rfl) ?_ _
     have hP : DSeg w6 ta ds ∧ (∀ d : Dt, d ∈ ds ↔ (∃ y, (y ∈ S.l ∧ gnS p fl y) ∧ y.r = d.1 ∧ y.q = d.2) ∨ ∃ y ∈ [(⟨p, fl, rep, q, v⟩ : Lf)], y.r = d.1 ∧ y.q = d.2) ∧ ds.length ≤ 1001 ∧ Below w2.heap.size w2 w6 := ⟨hsg6, hm6, hl6, hB6⟩
     generalize hK : u0.heap.size = aK
     generalize hL : u2.heap.size = aL
     clear hK hL hHeld happ r6 g6 hB6 hl6 hm6 hsg6 hlo hx1 hx2
     try clear ru2
     try clear ru3
     revert hP
     revert w6
     revert ds
     revert tc
     revert ta
     revert v3
     revert aL
     revert aK
     exact key.out
    ·skip
     intro o ho hod K hK; simp only [gZa, gZb, gZc, gZd] at ho; subst ho
     go_simp
     obtain ⟨u2, hu2⟩ : ∃ u2, u1.alloc (.cells #[.int .i64 rep, .int .i64 q] 55) = u2 := ⟨_, rfl⟩
     have lu2 : DR u2 u1.heap.size (.slice (some ⟨u1.heap.size, 0, none⟩) 1 1) [(rep, q)] := by rw [← hu2]; exact dr_one _ _ _
     have du2 : Below u1.heap.size u1 u2 := by rw [← hu2]; exact (Below.refl _ _).alloc (Nat.le_refl _) _
     rw [hu2]
     clear hu2
     have c2 := keepS c1 du2
     refine hK.out _ _ (HSE.out _ c2) (fun hHeld => ?_)
     clear hK K
     try simp only [Act.put, sZa, sZb, sZc]
     refine call1 (i := 4) (d := some 32) (by kernel_rfl) (by kernel_rfl) ?_
     intro o ho hod K hK; simp only [gZa, gZb, gZc, gZd] at ho; subst ho
     go_simp
     refine (HDA.out _ _ c2 (iu1.below du2)).mono ?_
     rintro e u3 ⟨⟨v3, ts, rfl, ru3, mu3, nu3⟩, du3⟩
     have c3 := keepS c2 du3
     refine hK.out _ _ (HSE.out _ c3) (fun hHeld => ?_)
     clear hK K
     try simp only [Act.put, sZa, sZb, sZc]
     have z1 := du2.size
     have z2 := du3.size
     have z3 := du1.size
     have z4 := c0.size
     have hlo : u2.heap.size ≤ u3.heap.size := by omega
     obtain ⟨v6, w6, happ, r6, g6⟩ := dotsApp u2.heap.size u1.heap.size v3 (.slice (some ⟨u1.heap.size, 0, none⟩) 1 1) ts [(rep, q)] u3 102 ru3 (lu2.below du3) hlo (by simp; omega)
     have hB6 : Below w2.heap.size w2 w6 := c3.grown g6.1 c3.size (fun k e => by
      have h1 := (World.ownsRow.lt ru3 k e).1
      omega)
     obtain ⟨ds, hds⟩ : ∃ ds, ts ++ [(rep, q)] = ds := ⟨_, rfl⟩
     rw [hds] at r6
     have hl6 : ds.length ≤ 1001 := by rw [← hds]; simp; omega
     have hm6 : ∀ d : Dt, d ∈ ds ↔ (∃ y, (y ∈ S.l ∧ gnS p fl y) ∧ y.r = d.1 ∧ y.q = d.2) ∨ ∃ y ∈ [(⟨p, fl, rep, q, v⟩ : Lf)], y.r = d.1 ∧ y.q = d.2 := fun d => by
      rw [← hds, List.mem_append, mu3 d, List.mem_singleton]
      constructor
      ·rintro (e | e)
       ·exact .inl e
       ·exact .inr ⟨_, List.mem_singleton.2 rfl, by rw [e], by rw [e]⟩
      ·rintro (e | ⟨y, hy, e1, e2⟩)
       ·exact .inl e
       ·rw [List.mem_singleton.1 hy] at e1 e2
        exact .inr (Prod.ext e1.symm e2.symm)
     obtain ⟨ta, tc, rfl, hsg6, hx1, hx2⟩ := own_dseg r6
     clear hds
     refine call1 (i := 7) (d := some 35) (by kernel_rfl) (by kernel_rfl) ?_
     intro o ho hod K hK; simp only [gZa, gZb, gZc, gZd] at ho; subst ho
     refine wp_app2 _ _ _ _ rfl happ (by rfl) (by rfl) rfl ?_
     refine hK.out _ _ (HSE.out _ hB6) (fun hHeld => ?_)
     clear hK K
     try simp only [Act.put, sZa, sZb, sZc]
     refine tk 8 15 ?_ (by kernel_rfl) (fun _ _ _ h => h) ?_ hHeld ?_
     rotate_left
     ·(intro o ho; simp only [gZa, gZb, gZc, gZd] at ho; subst ho; refine Or.inl ⟨by rfl, ?_⟩; intro w hSw; (try dsimp only at hSw); go_simp; try with_reducible rfl)
     try simp only [Act.put, sZa, sZb, sZc]
     refine wpAnyH_done (by kernel_rfl) ?_ _
     have hP : DSeg w6 ta ds ∧ (∀ d : Dt, d ∈ ds ↔ (∃ y, (y ∈ S.l ∧ gnS p fl y) ∧ y.r = d.1 ∧ y.q = d.2) ∨ ∃ y ∈ [(⟨p, fl, rep, q, v⟩ : Lf)], y.r = d.1 ∧ y.q = d.2) ∧ ds.length ≤ 1001 ∧ Below w2.heap.size w2 w6 := ⟨hsg6, hm6, hl6, hB6⟩
     exact key.out u0.heap.size u1.heap.size v3 ta tc ds w6 hP
   ·skip
    intro o ho hod K hK; simp only [gZa, gZb, gZc, gZd] at ho; subst ho
    go_simp
    obtain ⟨u1, hu1⟩ : ∃ u1, u0.alloc (.cells #[.int .i64 rep, .int .i64 q] 55) = u1 := ⟨_, rfl⟩
    have lu1 : DR u1 u0.heap.size (.slice (some ⟨u0.heap.size, 0, none⟩) 1 1) [(rep, q)] := by rw [← hu1]; exact dr_one _ _ _
    have du1 : Below u0.heap.size u0 u1 := by rw [← hu1]; exact (Below.refl _ _).alloc (Nat.le_refl _) _
    rw [hu1]
    clear hu1
    have c1 := keepS c0 du1
    refine hK.out _ _ (HSE.out _ c1) (fun hHeld => ?_)
    clear hK K
    try simp only [Act.put, sZa, sZb, sZc]
    refine call1 (i := 3) (d := some 31) (by kernel_rfl) (by kernel_rfl) ?_
    intro o ho hod K hK; simp only [gZa, gZb, gZc, gZd] at ho; subst ho
    go_simp
    obtain ⟨u2, hu2⟩ : ∃ u2, u1.alloc (.cells #[.int .i64 kk] 3) = u2 := ⟨_, rfl⟩
    have iu2 : ISeg u2 u1.heap.size [kk] := by rw [← hu2]; exact iseg_one _ _
    have du2 : Below u1.heap.size u1 u2 := by rw [← hu2]; exact (Below.refl _ _).alloc (Nat.le_refl _) _
    rw [hu2]
    clear hu2
    have c2 := keepS c1 du2
    refine hK.out _ _ (HSE.out _ c2) (fun hHeld => ?_)
    clear hK K
    try simp only [Act.put, sZa, sZb, sZc]
    refine call1 (i := 4) (d := some 32) (by kernel_rfl) (by kernel_rfl) ?_
    intro o ho hod K hK; simp only [gZa, gZb, gZc, gZd] at ho; subst ho
    go_simp
    refine (HDA.out _ _ c2 iu2).mono ?_
    rintro e u3 ⟨⟨v3, ts, rfl, ru3, mu3, nu3⟩, du3⟩
    have c3 := keepS c2 du3
    refine hK.out _ _ (HSE.out _ c3) (fun hHeld => ?_)
    clear hK K
    try simp only [Act.put, sZa, sZb, sZc]
    have z1 := du2.size
    have z2 := du3.size
    have z3 := du1.size
    have z4 := c0.size
    have hlo : u2.heap.size ≤ u3.heap.size := by omega
    obtain ⟨v6, w6, happ, r6, g6⟩ := dotsApp u2.heap.size u0.heap.size v3 (.slice (some ⟨u0.heap.size, 0, none⟩) 1 1) ts [(rep, q)] u3 102 ru3 ((lu1.below du2).below du3) hlo (by simp; omega)
    have hB6 : Below w2.heap.size w2 w6 := c3.grown g6.1 c3.size (fun k e => by
     have h1 := (World.ownsRow.lt ru3 k e).1
     omega)
    obtain ⟨ds, hds⟩ : ∃ ds, ts ++ [(rep, q)] = ds := ⟨_, rfl⟩
    rw [hds] at r6
    have hl6 : ds.length ≤ 1001 := by rw [← hds]; simp; omega
    have hm6 : ∀ d : Dt, d ∈ ds ↔ (∃ y, (y ∈ S.l ∧ gnS p fl y) ∧ y.r = d.1 ∧ y.q = d.2) ∨ ∃ y ∈ [(⟨p, fl, rep, q, v⟩ : Lf)], y.r = d.1 ∧ y.q = d.2 := fun d => by
     rw [← hds, List.mem_append, mu3 d, List.mem_singleton]
     constructor
     ·rintro (e | e)
      ·exact .inl e
      ·exact .inr ⟨_, List.mem_singleton.2 rfl, by rw [e], by rw [e]⟩
     ·rintro (e | ⟨y, hy, e1, e2⟩)
      ·exact .inl e
      ·rw [List.mem_singleton.1 hy] at e1 e2
       exact .inr (Prod.ext e1.symm e2.symm)
    obtain ⟨ta, tc, rfl, hsg6, hx1, hx2⟩ := own_dseg r6
    clear hds
    refine call1 (i := 7) (d := some 35) (by kernel_rfl) (by kernel_rfl) ?_
    intro o ho hod K hK; simp only [gZa, gZb, gZc, gZd] at ho; subst ho
    refine wp_app2 _ _ _ _ rfl happ (by rfl) (by rfl) rfl ?_
    refine hK.out _ _ (HSE.out _ hB6) (fun hHeld => ?_)
    clear hK K
    try simp only [Act.put, sZa, sZb, sZc]
    refine tk 8 15 ?_ (by kernel_rfl) (fun _ _ _ h => h) ?_ hHeld ?_
    rotate_left
    ·(intro o ho; simp only [gZa, gZb, gZc, gZd] at ho; subst ho; refine Or.inl ⟨by rfl, ?_⟩; intro w hSw; (try dsimp only at hSw); go_simp; try with_reducible rfl)
    try simp only [Act.put, sZa, sZb, sZc]
    refine wpAnyH_done (by kernel_rfl) ?_ _
    have hP : DSeg w6 ta ds ∧ (∀ d : Dt, d ∈ ds ↔ (∃ y, (y ∈ S.l ∧ gnS p fl y) ∧ y.r = d.1 ∧ y.q = d.2) ∨ ∃ y ∈ [(⟨p, fl, rep, q, v⟩ : Lf)], y.r = d.1 ∧ y.q = d.2) ∧ ds.length ≤ 1001 ∧ Below w2.heap.size w2 w6 := ⟨hsg6, hm6, hl6, hB6⟩
    exact key.out u1.heap.size u0.heap.size v3 ta tc ds w6 hP
  intro aK aL v3 ta tc ds w6 hP
  obtain ⟨hsg6, hm6, hl6, b6⟩ := hP
  have HSG6 := hid hsg6
  have HM6 := hid hm6
  have HL6 := hid hl6
  have HB6 := hid b6
  have HD6 := hid (HD2.out.below b6 HD2.out.lt)
  have HOK : Hid (DOk ds) := hid (fun d hd => by
   rcases (hm6 d).1 hd with ⟨y, ⟨hy, _⟩, e1, e2⟩ | ⟨y, hy, e1, e2⟩
   ·have := has_rok (ok_okTo HS.out) (ok_has HS.out y hy)
    unfold Rok dtR at this; simp only at this; omega
   ·have := HPT.out.dot y hy
    unfold Rok dtR at this; simp only at this; omega)
  have HB06 := hid (keepS HB2.out b6)
  have HA6 := hid (HA2.out.below b6 HA2.out.lt)
  have HM6b := hid (HM0.out.below HB06.out HM0.out.lt)
  have HR6 := hid (HR0.out.below HB06.out HR0.out.lt)
  have HQ6 := hid (HQ0.out.below HB06.out HQ0.out.lt)
  have HO6 := hid (HO.out.below HB06.out)
  have HS6 := hid (HSG.out.below HB06.out)
  clear hsg6 hm6 hl6 b6 HDA HSE HD2 HR1 HQ1 HA1 HA2
  go_wp2_with fail
  refine (newNode _).mono ?_
  rintro e w7 ⟨s1, s2, rfl, hss, hs1, hs2, m1, m2, b7⟩
  have HTN := hid (tre_none (B := w6.heap.size) m1 m2 hss ⟨hs1, hs2⟩)
  have HSL : Hid (s1 < w7.heap.size ∧ s2 < w7.heap.size) := hid ⟨m1.lt, m2.lt⟩
  have HRO := hid (runsOfC ta tc ds w7 (by have := HL6.out; omega) HOK.out (HSG6.out.below b7))
  have HB7 := hid b7
  clear hss hs1 hs2 m1 m2 b7
  go_wp2_with fail
  refine HRO.out.mono ?_
  rintro e w8 ⟨⟨bd, n, D, G, L, rfl, hn, hG, hsrt, hin, hlen, hbd⟩, b8⟩
  obtain ⟨w9, hw9⟩ : ∃ w9, w8.alloc (.cells #[.map (some s1), .map (some s2), .map (some bd)] 68) = w9 := ⟨_, rfl⟩
  have b9 : Below w8.heap.size w8 w9 := by rw [← hw9]; exact (Below.refl _ _).alloc (Nat.le_refl _) _
  have HX9 : Hid (Bx3 w9 w8.heap.size (.map (some s1)) (.map (some s2)) (.map (some bd))) := hid (by rw [← hw9]; exact Bx3.made _ _ _ _ _)
  have b79 := keepS b8 b9
  have b69 := keepS HB7.out b79
  have HB69 := hid b69
  have hXN : ∀ (z : List Ky) (x : Nat × Nat), (if z = [] then some (s1, s2) else none) = some x → x.1 ≠ bd ∧ x.2 ≠ bd := fun z x hx => by
   have h1 := HSL.out
   by_cases e : z = []
   ·rw [if_pos e] at hx
    injection hx with hx
    subst hx
    exact ⟨by show s1 ≠ bd; omega, by show s2 ≠ bd; omega⟩
   ·rw [if_neg e] at hx; cases hx
  have hbl : bd < w9.heap.size := by
   obtain ⟨es, cl, hb, _⟩ := (hG.below b9).own
   exact (Array.getElem?_eq_some_iff.1 hb).1
  have hwq : (Lit.int .i64 q).wf = true := wfI (by have := HPT.out.dot _ (List.mem_singleton.2 rfl); unfold Rok dtR at this; simp only at this; omega) (by have := HQB.out; omega)
  have hwk : (Lit.int .i64 kk).wf = true := by rw [← HKK.out]; rcases kd_or fl with e | e <;> rw [e] <;> decide
  have HPX := hid (putX bd p a cp kk rep q v w6.heap.size (9 * 0) (fun z => if z = [] then some (s1, s2) else none) (Mk [] 0) (s1, s2) w9 (by have := HPO.out.2.1; omega) (pth_size HPO.out) hwk HRW.out hwq (by omega) (by have := b69.size; omega) (HS6.out.below b69) (HTN.out.1.below b79) (if_pos rfl) hbl hXN)
  have HGD : Hid (n ≤ 2000 ∧ GrpAt w9 bd n D G L ∧ (∀ r, Srt (L r)) ∧ (∀ r x, In (L r) x ↔ (r, x) ∈ ds) ∧ ∀ r, (L r).length ≤ 2000) := hid ⟨hn, hG.below b9, hsrt, hin, hlen⟩
  have X9 := HX9.out
  have y0 := X9.c0
  have y1 := X9.c1
  have y2 := X9.c2
  have D9 := HD6.out.below b69 HD6.out.lt
  have y3 := D9.c0
  have y4 := D9.c1
  have y5 := (HM6b.out.below b69 HM6b.out.lt).c0
  clear hn hG hsrt hin hlen hbd b8 b9 b79 b69 hXN hbl hwq hwk HRO X9 D9
  go_wp2_with fail
  try rw [hw9]
  clear hw9
  refine HPX.out.mono ?_
  rintro e w10 ⟨rfl, g10, x10, N', t10, n10, i10⟩
  have bX : Below w6.heap.size w6 w10 := HB69.out.trans (g10.below (by have := HB69.out.size; omega))
  have hNK : NkI [(⟨p, fl, rep, q, v⟩ : Lf)] 1 N' := fun z => by
   rw [i10 z]
   have h1 := HTN.out.2 z
   constructor
   ·rintro (e | e)
    ·rcases h1.1 e with e | ⟨j, hj, _⟩
     ·exact .inl e
     ·omega
    ·exact .inr ⟨0, by omega, by rw [← HKK.out] at e; exact e⟩
   ·rintro (e | ⟨j, hj, e⟩)
    ·exact .inl (h1.2 (.inl e))
    ·obtain rfl : j = 0 := by omega
     exact .inr (by rw [← HKK.out]; exact e)
  have hop := dl_open (g := gnS p fl) (P := [(⟨p, fl, rep, q, v⟩ : Lf)]) HS.out HPT.out HGD.out.1 (HGD.out.2.1.gtX g10 x10) HGD.out.2.2.1 HGD.out.2.2.2.1 HGD.out.2.2.2.2 HM6.out (x0 := (s1, s2)) (N := N') (B := w6.heap.size) (by
   have := t10.mono (c' := 9 * 1) (by have := HPO.out.2.1; omega)
   rw [← HKK.out] at this
   exact this) n10 hNK
  have HCH := hid (changeC w10 (HO6.out.below bX) hop.1 hop.2 (mkS_eta _ _) HS.out.w (dl_w HS.out HPT.out))
  obtain ⟨X, hX⟩ : ∃ X, chX S (dlS (gnS p fl) S.l [⟨p, fl, rep, q, v⟩]) = X := ⟨_, rfl⟩
  obtain ⟨Y, hY⟩ : ∃ Y, chY S (dlS (gnS p fl) S.l [⟨p, fl, rep, q, v⟩]) = Y := ⟨_, rfl⟩
  obtain ⟨C, hC⟩ : ∃ C, chC S (dlS (gnS p fl) S.l [⟨p, fl, rep, q, v⟩]) = C := ⟨_, rfl⟩
  rw [hX, hY, hC] at HCH
  have HXYC : Hid (wrX S rep p fl v = X ∧ wrY S rep p fl v = Y ∧ wrC S rep p fl v = C) := hid (by
   obtain ⟨z1, z2, z3⟩ := HZ.out
   rw [HZD.out] at z1 z2 z3
   exact ⟨z1.trans hX, z2.trans hY, z3.trans hC⟩)
  have HX10 := hid (HX9.out)
  have A10 := HA6.out.below bX HA6.out.lt
  have l0 := A10.c0
  have l1 := A10.c1
  have l2 := A10.c2
  have z0 := g10.cell y0
  have z1 := g10.cell y1
  have z2 := g10.cell y2
  have HR10 := hid (HR6.out.below bX HR6.out.lt)
  have HQ10 := hid (HQ6.out.below bX HQ6.out.lt)
  have HBX := hid (keepS HB06.out bX)
  clear y0 y1 y2 y3 y4 y5 bX hNK hop hX hY hC A10 g10 x10 t10 n10 i10 HPX HGD
  go_wp2_with fail
  refine HCH.out.mono ?_
  rintro e w4 ⟨ra, rc, rx, rd, ra', rc', rx', rd', mid, rfl, ox, oy, b4⟩
  have R4 := HR10.out.below b4 HR10.out.lt
  have Q4 := HQ10.out.below b4 HQ10.out.lt
  have HB4 := hid (keepS HB0.out (keepS HBX.out b4))
  have HOX := hid ox
  have HOY := hid oy
  have HZ3 : Hid (w.heap.size + 4 ≤ w10.heap.size) := hid (by have h1 := HZW.out; have h2 := HBX.out.size; omega)
  have r0 := R4.c0
  have r1 := R4.c1
  have rf := R4.f
  have HC := hid (R4.set (.slice ra X.l.length rc) (.slice rx X.n rd))
  have Q5 := ((Q4.setAt ⟨w.heap.size + 1 + 1, 0, none⟩ (.slice ra X.l.length rc) (by show w.heap.size + 1 + 1 ≠ w.heap.size + 1 + 1 + 1; omega)).setAt ⟨w.heap.size + 1 + 1, 1, none⟩ (.slice rx X.n rd) (by show w.heap.size + 1 + 1 ≠ w.heap.size + 1 + 1 + 1; omega))
  have q0 := Q5.c0
  have q1 := Q5.c1
  have qf := Q5.f
  have HQ6x := hid (Q5.set (.slice ra' Y.l.length rc') (.slice rx' Y.n rd'))
  have HC6 := hid ((HC.out.setAt ⟨w.heap.size + 1 + 1 + 1, 0, none⟩ (.slice ra' Y.l.length rc') (by show w.heap.size + 1 + 1 + 1 ≠ w.heap.size + 1 + 1; omega)).setAt ⟨w.heap.size + 1 + 1 + 1, 1, none⟩ (.slice rx' Y.n rd') (by show w.heap.size + 1 + 1 + 1 ≠ w.heap.size + 1 + 1; omega))
  clear ox oy b4 R4 Q4 Q5 HCH l0 l1 l2 z0 z1 z2
  go_wp2_with fail
  have s0 := HC6.out.c0
  have s1 := HC6.out.c1
  have s2 := HQ6x.out.c0
  have s3 := HQ6x.out.c1
  refine bodyPost_ret (v := .tuple #[.agg #[.slice ra X.l.length rc, .slice rx X.n rd], .agg #[.slice ra' Y.l.length rc', .slice rx' Y.n rd'], .int .i64 C]) (by simp [results, Tryz.results39, go_sem, s0, s1, s2, s3]) rfl ?_
  have hz := HZ3.out
  have hmid : w10.heap.size ≤ mid := HOX.out.hl.1
  have e1 := HXYC.out.1
  have e2 := HXYC.out.2.1
  have e3 := HXYC.out.2.2
  have G1 : SOw ((((w4.setCell ⟨w.heap.size + 1 + 1, 0, none⟩ (.slice ra X.l.length rc)).setCell ⟨w.heap.size + 1 + 1, 1, none⟩ (.slice rx X.n rd)).setCell ⟨w.heap.size + 1 + 1 + 1, 0, none⟩ (.slice ra' Y.l.length rc')).setCell ⟨w.heap.size + 1 + 1 + 1, 1, none⟩ (.slice rx' Y.n rd')) w.heap.size mid ra rx rd X :=
   SOw.wide ((((HOX.out.set ⟨w.heap.size + 1 + 1, 0, none⟩ (.slice ra X.l.length rc) (.inl (by show w.heap.size + 1 + 1 < w10.heap.size; omega))).set ⟨w.heap.size + 1 + 1, 1, none⟩ (.slice rx X.n rd) (.inl (by show w.heap.size + 1 + 1 < w10.heap.size; omega))).set ⟨w.heap.size + 1 + 1 + 1, 0, none⟩ (.slice ra' Y.l.length rc') (.inl (by show w.heap.size + 1 + 1 + 1 < w10.heap.size; omega))).set ⟨w.heap.size + 1 + 1 + 1, 1, none⟩ (.slice rx' Y.n rd') (.inl (by show w.heap.size + 1 + 1 + 1 < w10.heap.size; omega))) (by omega) (Nat.le_refl _) (by simp [World.setCell]; exact Nat.le_trans HOY.out.hl.1 HOY.out.hl.2)
  have G2 : SOw ((((w4.setCell ⟨w.heap.size + 1 + 1, 0, none⟩ (.slice ra X.l.length rc)).setCell ⟨w.heap.size + 1 + 1, 1, none⟩ (.slice rx X.n rd)).setCell ⟨w.heap.size + 1 + 1 + 1, 0, none⟩ (.slice ra' Y.l.length rc')).setCell ⟨w.heap.size + 1 + 1 + 1, 1, none⟩ (.slice rx' Y.n rd')) mid ((((w4.setCell ⟨w.heap.size + 1 + 1, 0, none⟩ (.slice ra X.l.length rc)).setCell ⟨w.heap.size + 1 + 1, 1, none⟩ (.slice rx X.n rd)).setCell ⟨w.heap.size + 1 + 1 + 1, 0, none⟩ (.slice ra' Y.l.length rc')).setCell ⟨w.heap.size + 1 + 1 + 1, 1, none⟩ (.slice rx' Y.n rd')).heap.size ra' rx' rd' Y :=
   SOw.wide ((((HOY.out.set ⟨w.heap.size + 1 + 1, 0, none⟩ (.slice ra X.l.length rc) (.inl (by show w.heap.size + 1 + 1 < mid; omega))).set ⟨w.heap.size + 1 + 1, 1, none⟩ (.slice rx X.n rd) (.inl (by show w.heap.size + 1 + 1 < mid; omega))).set ⟨w.heap.size + 1 + 1 + 1, 0, none⟩ (.slice ra' Y.l.length rc') (.inl (by show w.heap.size + 1 + 1 + 1 < mid; omega))).set ⟨w.heap.size + 1 + 1 + 1, 1, none⟩ (.slice rx' Y.n rd') (.inl (by show w.heap.size + 1 + 1 + 1 < mid; omega))) (Nat.le_refl _) (by simp [World.setCell]) (Nat.le_refl _)
  have G3 := (((HB4.out.setCell (p := ⟨w.heap.size + 1 + 1, 0, none⟩) (by show w.heap.size ≤ w.heap.size + 1 + 1; omega) (.slice ra X.l.length rc)).setCell (p := ⟨w.heap.size + 1 + 1, 1, none⟩) (by show w.heap.size ≤ w.heap.size + 1 + 1; omega) (.slice rx X.n rd)).setCell (p := ⟨w.heap.size + 1 + 1 + 1, 0, none⟩) (by show w.heap.size ≤ w.heap.size + 1 + 1 + 1; omega) (.slice ra' Y.l.length rc')).setCell (p := ⟨w.heap.size + 1 + 1 + 1, 1, none⟩) (by show w.heap.size ≤ w.heap.size + 1 + 1 + 1; omega) (.slice rx' Y.n rd')
  rw [e1, e2, e3]
  first
   | exact ⟨ra, rc, rx, rd, ra', rc', rx', rd', mid, rfl, G1, G2, G3⟩
   | exact ⟨ra, rc, rx, rd, ra', rc', rx', rd', rfl, mid, G1, G2, G3⟩
 ·have e1 := hno hc
  clear hy hno
  subst e1
  have HZ := hid (wr_f (S := S) (rep := rep) (p := p) (fl := fl) (v := v) (fun hn => hc (HNX.out.1 hn)))
  clear hc
  obtain ⟨u2, hu2⟩ : ∃ u2, w1.alloc (.cells #[.int .i64 0, .int .i64 0] 55) = u2 := ⟨_, rfl⟩
  have b2 : Below w1.heap.size w1 u2 := by rw [← hu2]; exact (Below.refl _ _).alloc (Nat.le_refl _) _
  have D2 : Bx2 u2 w1.heap.size (.int .i64 0) (.int .i64 0) := by rw [← hu2]; exact Bx2.made _ _ _ _
  have y0 := D2.c0
  have y1 := D2.c1
  have yf := D2.f
  obtain ⟨w2, hw2⟩ : ∃ w2, (u2.setCell ⟨w1.heap.size, 0, none⟩ (.int .i64 0)).setCell ⟨w1.heap.size, 1, none⟩ (.int .i64 0) = w2 := ⟨_, rfl⟩
  have hlr := HR1.out.lt
  have hlq := HQ1.out.lt
  have HB2 : Hid (Below w.heap.size w w2) := hid (by
   have h1 := HB0.out.size
   have h2 := HB1.out.size
   rw [← hw2]
   exact ((keepS HB0.out (keepS HB1.out b2)).setCell (p := ⟨w1.heap.size, 0, none⟩) (by show w.heap.size ≤ w1.heap.size; omega) _).setCell (p := ⟨w1.heap.size, 1, none⟩) (by show w.heap.size ≤ w1.heap.size; omega) _)
  have HR2 : Hid (Bx2 w2 (w.heap.size + 1 + 1) (.slice none 0 0) (.slice none 0 0)) := hid (by
   rw [← hw2]
   exact ((HR1.out.below b2 HR1.out.lt).setAt _ _ (by show w1.heap.size ≠ w.heap.size + 1 + 1; omega)).setAt _ _ (by show w1.heap.size ≠ w.heap.size + 1 + 1; omega))
  have HQ2 : Hid (Bx2 w2 (w.heap.size + 1 + 1 + 1) (.slice none 0 0) (.slice none 0 0)) := hid (by
   rw [← hw2]
   exact ((HQ1.out.below b2 HQ1.out.lt).setAt _ _ (by show w1.heap.size ≠ w.heap.size + 1 + 1 + 1; omega)).setAt _ _ (by show w1.heap.size ≠ w.heap.size + 1 + 1 + 1; omega))
  clear D2 hlr hlq
  have r0 := HR2.out.c0
  have r1 := HR2.out.c1
  have rf := HR2.out.f
  have HC3 := hid (HR2.out.set (.slice none 0 0) (.slice none 0 0))
  have Q3 := (HQ2.out.setAt ⟨w.heap.size + 1 + 1, 0, none⟩ (.slice none 0 0) (by show w.heap.size + 1 + 1 ≠ w.heap.size + 1 + 1 + 1; omega)).setAt ⟨w.heap.size + 1 + 1, 1, none⟩ (.slice none 0 0) (by show w.heap.size + 1 + 1 ≠ w.heap.size + 1 + 1 + 1; omega)
  have q0 := Q3.c0
  have q1 := Q3.c1
  have qf := Q3.f
  have HQ4 := hid (Q3.set (.slice none 0 0) (.slice none 0 0))
  have HC4 := hid ((HC3.out.setAt ⟨w.heap.size + 1 + 1 + 1, 0, none⟩ (.slice none 0 0) (by show w.heap.size + 1 + 1 + 1 ≠ w.heap.size + 1 + 1; omega)).setAt ⟨w.heap.size + 1 + 1 + 1, 1, none⟩ (.slice none 0 0) (by show w.heap.size + 1 + 1 + 1 ≠ w.heap.size + 1 + 1; omega))
  clear Q3 b2
  go_wp2_with fail
  try rw [hw2]
  have s0 := HC4.out.c0
  have s1 := HC4.out.c1
  have s2 := HQ4.out.c0
  have s3 := HQ4.out.c1
  refine bodyPost_ret (v := .tuple #[.agg #[.slice none 0 0, .slice none 0 0], .agg #[.slice none 0 0, .slice none 0 0], .int .i64 3]) (by simp [results, Tryz.results39, go_sem, s0, s1, s2, s3]) rfl ⟨none, 0, none, 0, none, 0, none, 0, w.heap.size, by rw [HZ.out.1, HZ.out.2.1, HZ.out.2.2]; rfl, ?_, ?_, ?_⟩
  ·rw [HZ.out.1]; exact SOw.mt _ Sx.mt rfl rfl _ _ ⟨Nat.le_refl _, by simp [World.setCell]; exact HB2.out.size⟩ _ _ _
  ·rw [HZ.out.2.1]; exact SOw.emp _ _ _ _ _ (by simp [World.setCell]; exact HB2.out.size)
  ·exact (((HB2.out.setCell (by simp; omega) _).setCell (by simp; omega) _).setCell (by simp; omega) _).setCell (by simp; omega) _
end Go.Proofs.YtcbcabhjododoaaGreat
namespace Go.Proofs.YtcbcabhjododoaaGreat
open Go.ChangeShapes Go.WideShapes Go.ChangeAt Go.RowKit Go.Deep
noncomputable def cDR (g : Lf → Prop) (l P : List Lf) (j k : Nat) : List Rn := unF [] ((goL g (l.take j)).map dtR ++ (P.take k).map dtR)
def cNR (S : Sx) (P : List Lf) (k : Nat) : List Rn := unF (flat S.R S.F S.T S.n) ((P.take k).map dtR)
noncomputable def cNL (g : Lf → Prop) (l P : List Lf) (j k : Nat) : List Lf := (P.take k).foldl (fun o y => insL y o) (stL g (l.take j))
noncomputable def cDL (P : List Lf) (k : Nat) : List Lf := (P.take k).foldl (fun o y => insL y o) []
theorem take_gL {l : List Lf} {j : Nat} (h : j < l.length) : l.take (j + 1) = l.take j ++ [gL l j] := by
 rw [List.take_add_one, List.getElem?_eq_getElem h]
 simp [gL, List.getD, h]
theorem take_mem {l : List Lf} {j : Nat} {x : Lf} (h : x ∈ l.take j) : x ∈ l := List.mem_of_mem_take h
section
variable {g : Lf → Prop} {l P : List Lf} {j k : Nat}
theorem goL_t (h : j < l.length) (hg : g (gL l j)) : goL g (l.take (j + 1)) = goL g (l.take j) ++ [gL l j] := by
 unfold goL; rw [take_gL h, List.filter_append]; congr 1
 simp [yes_t hg]
theorem goL_f (h : j < l.length) (hg : ¬ g (gL l j)) : goL g (l.take (j + 1)) = goL g (l.take j) := by
 unfold goL; rw [take_gL h, List.filter_append]
 simp [yes_f hg]
theorem stL_t (h : j < l.length) (hg : g (gL l j)) : stL g (l.take (j + 1)) = stL g (l.take j) := by
 unfold stL; rw [take_gL h, List.filter_append]
 simp [yes_t hg]
theorem stL_f (h : j < l.length) (hg : ¬ g (gL l j)) : stL g (l.take (j + 1)) = stL g (l.take j) ++ [gL l j] := by
 unfold stL; rw [take_gL h, List.filter_append]; congr 1
 simp [yes_f hg]
theorem cDR_go (h : j < l.length) (hg : g (gL l j)) : cDR g l P (j + 1) 0 = ins (cDR g l P j 0) (dtR (gL l j)) := by
 unfold cDR
 rw [goL_t h hg, List.take_zero, List.map_append, List.map_nil, List.append_nil, List.append_nil]
 exact unF_snoc _ _ _
theorem cDR_st (h : j < l.length) (hg : ¬ g (gL l j)) : cDR g l P (j + 1) 0 = cDR g l P j 0 := by unfold cDR; rw [goL_f h hg]
theorem cNL_go (h : j < l.length) (hg : g (gL l j)) : cNL g l P (j + 1) 0 = cNL g l P j 0 := by unfold cNL; rw [stL_t h hg]
theorem cNL_st (h : j < l.length) (hg : ¬ g (gL l j)) : cNL g l P (j + 1) 0 = cNL g l P j 0 ++ [gL l j] := by
 unfold cNL; rw [stL_f h hg, List.take_zero]; rfl
theorem cDR_put (h : k < P.length) : cDR g l P j (k + 1) = ins (cDR g l P j k) (dtR (gL P k)) := by
 unfold cDR
 rw [take_gL h, List.map_append, ← List.append_assoc]
 exact unF_snoc _ _ _
theorem cNR_put {S : Sx} (h : k < P.length) : cNR S P (k + 1) = ins (cNR S P k) (dtR (gL P k)) := by
 unfold cNR
 rw [take_gL h, List.map_append]
 exact unF_snoc _ _ _
theorem cNL_put (h : k < P.length) : cNL g l P j (k + 1) = insL (gL P k) (cNL g l P j k) := by
 unfold cNL; rw [take_gL h, List.foldl_append]; rfl
theorem cDL_put (h : k < P.length) : cDL P (k + 1) = insL (gL P k) (cDL P k) := by
 unfold cDL; rw [take_gL h, List.foldl_append]; rfl
theorem cDR_end : cDR g l P l.length P.length = dlU g l P := by unfold cDR dlU; rw [List.take_length, List.take_length]
theorem cNR_end {S : Sx} : cNR S P P.length = nxU S P := by unfold cNR nxU; rw [List.take_length]
theorem cNL_end : cNL g l P l.length P.length = nxL g l P := by unfold cNL nxL; rw [List.take_length, List.take_length]
theorem cDL_end (h : P.length ≤ 1) : cDL P P.length = P := by
 unfold cDL; rw [List.take_length]
 match P, h with
 | [], _ => rfl
 | [y], _ => rfl
 | _ :: _ :: _, h => simp at h
theorem fold_len : ∀ (P o : List Lf), (P.foldl (fun o y => insL y o) o).length = o.length + P.length
 | [], o => rfl
 | y :: P, o => by rw [List.foldl_cons, fold_len P, insL_len, List.length_cons]; omega
theorem cNL_len : (cNL g l P j k).length ≤ l.length + P.length := by
 unfold cNL; rw [fold_len]
 have h1 : (stL g (l.take j)).length ≤ (l.take j).length := List.length_filter_le _ _
 rw [List.length_take] at h1 ⊢
 omega
theorem cDL_len : (cDL P k).length ≤ P.length := by
 unfold cDL; rw [fold_len, List.length_take, List.length_nil]
 omega
theorem cDR_len : (cDR g l P j k).length ≤ l.length + P.length := by
 have h0 := unF_len ((goL g (l.take j)).map dtR ++ (P.take k).map dtR) []
 have h1 : (goL g (l.take j)).length ≤ (l.take j).length := List.length_filter_le _ _
 rw [List.length_append, List.length_map, List.length_map, List.length_take, List.length_nil] at h0
 rw [List.length_take] at h1
 show (unF [] _).length ≤ _
 omega
theorem cNR_len {S : Sx} : (cNR S P k).length ≤ S.n + P.length := by
 have h0 := unF_len ((P.take k).map dtR) (flat S.R S.F S.T S.n)
 rw [List.length_map, List.length_take, flatR_len] at h0
 show (unF _ _).length ≤ _
 omega
theorem cNL_mem {z : Lf} (h : z ∈ cNL g l P j k) : z ∈ l ∨ z ∈ P := by
 unfold cNL at h
 rcases (nxL_mem (l := l)).1 h with h | h
 ·exact .inl (take_mem (stL_mem.1 h).1)
 ·exact .inr (take_mem h)
theorem cDL_mem {z : Lf} (h : z ∈ cDL P k) : z ∈ P := by
 unfold cDL at h
 rcases (nxL_mem (l := P)).1 h with h | h
 ·cases h
 ·exact take_mem h
end
section
variable {g : Lf → Prop} {S : Sx} {P : List Lf}
theorem cDR_ok (h : StOk S.R S.F S.T S.n S.l) (hp : PtO S P) (j k : Nat) : FSrt (cDR g S.l P j k) := (unF_ok _ [] fs_nil (fun p hq => by
 refine dl_rok (g := g) h hp p ?_
 rcases List.mem_append.1 hq with hq | hq
 ·obtain ⟨x, hx, rfl⟩ := List.mem_map.1 hq
  exact List.mem_append.2 (.inl (List.mem_map.2 ⟨x, goL_mem.2 ⟨take_mem (goL_mem.1 hx).1, (goL_mem.1 hx).2⟩, rfl⟩))
 ·obtain ⟨x, hx, rfl⟩ := List.mem_map.1 hq
  exact List.mem_append.2 (.inr (List.mem_map.2 ⟨x, take_mem hx, rfl⟩)))).1
theorem cNR_ok (h : StOk S.R S.F S.T S.n S.l) (hp : PtO S P) (k : Nat) : FSrt (cNR S P k) := (unF_ok _ _ (flat_srt S.n (ok_okTo h)) (fun p hq => by
 obtain ⟨x, hx, rfl⟩ := List.mem_map.1 hq
 exact hp.dot x (take_mem hx))).1
theorem pth_of {l : List Lf} (h : ∀ z ∈ l, 1 ≤ z.p.length ∧ z.p.length ≤ 8) : ∀ i, i < l.length → 1 ≤ (gL l i).p.length ∧ (gL l i).p.length ≤ 8 := fun i hi => h _ (gL_mem.2 ⟨i, hi, rfl⟩)
theorem ok_pm (h : StOk S.R S.F S.T S.n S.l) : ∀ z ∈ S.l, 1 ≤ z.p.length ∧ z.p.length ≤ 8 := fun z hz => by
 obtain ⟨j, hj, e⟩ := gL_mem.1 hz
 have := (h.2.2.1 j hj).1
 rw [e] at this
 exact ⟨this.1.1, this.1.2.1⟩
theorem PtO.pm (hp : PtO S P) : ∀ z ∈ P, 1 ≤ z.p.length ∧ z.p.length ≤ 8 := fun z hz => ⟨(hp.ok z hz).1.1, (hp.ok z hz).1.2.1⟩
theorem cNL_pth (h : StOk S.R S.F S.T S.n S.l) (hp : PtO S P) (j k : Nat) : ∀ i, i < (cNL g S.l P j k).length → 1 ≤ (gL (cNL g S.l P j k) i).p.length ∧ (gL (cNL g S.l P j k) i).p.length ≤ 8 := pth_of fun z hz => by
 rcases cNL_mem hz with hz | hz
 ·exact ok_pm h z hz
 ·exact hp.pm z hz
theorem cDL_pth (hp : PtO S P) (k : Nat) : ∀ i, i < (cDL P k).length → 1 ≤ (gL (cDL P k) i).p.length ∧ (gL (cDL P k) i).p.length ≤ 8 := pth_of fun z hz => hp.pm z (cDL_mem hz)
end
theorem mk_at {w : World} {lo g c : Nat} {ra : Option Addr} {rc : Nat} {l : List Lf} {u : List Rn} {P Q : Nat → Nat} (h : LC w lo (.slice (some ⟨g, 0, none⟩) l.length c) l P Q) (hf : FR w lo (.slice ra u.length rc) u) : SNc w lo (some ⟨g, 0, none⟩) ra (mkS l u) := fun w' h1 h2 => by
 have hL := h.move h1 h2
 have hF : FR w' lo (.slice ra u.length rc) u := own_at5 hf (fun q hq => h2 q (World.ownsRow.lt hf q hq).1 (World.ownsRow.lt hf q hq).2)
 obtain ⟨a, c', e, s, _, _⟩ := hF.fs
 injection e with e1 e2 e3
 subst e1
 exact ⟨hL.lcap rfl, s.rseg⟩
structure CS (w wr : World) (t1 t2 : Nat) (va0 va1 : Value) (gD cD : Nat) (DL : List Lf) (DP DQ : Nat → Nat) (vr1 : Value) (DU : List Rn) (gN cN : Nat) (NL : List Lf) (NP NQ : Nat → Nat) (vr2 : Value) (NU : List Rn) : Prop where
 low : Below w.heap.size w wr
 a : Bx2 wr w.heap.size va0 va1
 r1 : Bx2 wr (w.heap.size + 1) (.slice none 0 0) (.slice none 0 0)
 r2 : Bx2 wr (w.heap.size + 1 + 1) (.slice none 0 0) (.slice none 0 0)
 d : Bx2 wr t1 (.slice (some ⟨gD, 0, none⟩) DL.length cD) vr1
 n : Bx2 wr t2 (.slice (some ⟨gN, 0, none⟩) NL.length cN) vr2
 ld : LC wr (w.heap.size + 3) (.slice (some ⟨gD, 0, none⟩) DL.length cD) DL DP DQ
 ln : LC wr (w.heap.size + 3) (.slice (some ⟨gN, 0, none⟩) NL.length cN) NL NP NQ
 fd : FR wr (w.heap.size + 3) vr1 DU
 fn : FR wr (w.heap.size + 3) vr2 NU
 h1 : w.heap.size + 3 ≤ t1
 h2 : w.heap.size + 3 ≤ t2
 h12 : t1 ≠ t2
 sd : gD ≠ t1 ∧ gD ≠ t2 ∧ gD ≠ gN
 sn : gN ≠ t1 ∧ gN ≠ t2
 s1 : ∀ b, vr1.ownBlock = some b → b ≠ t1 ∧ b ≠ t2 ∧ b ≠ gN
 s2 : ∀ b, vr2.ownBlock = some b → b ≠ t1 ∧ b ≠ t2 ∧ b ≠ gN
 pd : ∀ i, i < DL.length → DP i ≠ t1 ∧ DP i ≠ t2
 pn : ∀ i, i < NL.length → NP i ≠ t1 ∧ NP i ≠ t2
section
variable {w wr w1 : World} {t1 t2 : Nat} {va0 va1 : Value} {gD cD : Nat} {DL : List Lf} {DP DQ : Nat → Nat} {vr1 : Value} {DU : List Rn} {gN cN : Nat} {NL : List Lf} {NP NQ : Nat → Nat} {vr2 : Value} {NU : List Rn}
theorem CS.below (h : CS w wr t1 t2 va0 va1 gD cD DL DP DQ vr1 DU gN cN NL NP NQ vr2 NU) (hb : Below wr.heap.size wr w1) : CS w w1 t1 t2 va0 va1 gD cD DL DP DQ vr1 DU gN cN NL NP NQ vr2 NU :=
 ⟨h.low.trans (hb.mono h.low.size), h.a.below hb h.a.lt, h.r1.below hb h.r1.lt, h.r2.below hb h.r2.lt, h.d.below hb h.d.lt, h.n.below hb h.n.lt, h.ld.below hb, h.ln.below hb, h.fd.below hb, h.fn.below hb, h.h1, h.h2, h.h12, h.sd, h.sn, h.s1, h.s2, h.pd, h.pn⟩
theorem ob_some {a b : Nat} {n c : Nat} (h : a ≠ b) : (Value.slice (some ⟨a, 0, none⟩) n c).ownBlock ≠ some b := fun e => h (by simpa [Value.ownBlock] using e)
theorem CS.setD1 {v : Value} {U : List Rn} (h : CS w wr t1 t2 va0 va1 gD cD DL DP DQ vr1 DU gN cN NL NP NQ vr2 NU) (hb : Below wr.heap.size wr w1) (hf : FR w1 wr.heap.size v U) : CS w (w1.setCell ⟨t1, 1, none⟩ v) t1 t2 va0 va1 gD cD DL DP DQ v U gN cN NL NP NQ vr2 NU := by
 have k := h.below hb
 have l1 := h.d.lt
 have l2 := h.n.lt
 have l3 := (h.ln.row.lt gN rfl).2
 have l4 := h.h1
 have nv : ∀ b, v.ownBlock = some b → wr.heap.size ≤ b := fun b e => (World.ownsRow.lt hf b e).1
 refine ⟨k.low.setCell (by show w.heap.size ≤ t1; omega) _, k.a.setAt _ _ (by show t1 ≠ w.heap.size; omega), k.r1.setAt _ _ (by show t1 ≠ w.heap.size + 1; omega), k.r2.setAt _ _ (by show t1 ≠ w.heap.size + 1 + 1; omega), k.d.set1 _, k.n.setAt _ _ h.h12, k.ld.set _ _ (ob_some h.sd.1) (fun i hi => (h.pd i hi).1), k.ln.set _ _ (ob_some h.sn.1) (fun i hi => (h.pn i hi).1), (hf.weak (by omega)).setFar _ _ (fun e => by have := nv _ e; have : wr.heap.size ≤ t1 := this; omega), k.fn.setFar _ _ (fun e => (h.s2 _ e).1 rfl), h.h1, h.h2, h.h12, h.sd, h.sn, fun b e => ?_, h.s2, h.pd, h.pn⟩
 have := nv b e
 exact ⟨by omega, by omega, by omega⟩
theorem CS.setN1 {v : Value} {U : List Rn} (h : CS w wr t1 t2 va0 va1 gD cD DL DP DQ vr1 DU gN cN NL NP NQ vr2 NU) (hb : Below wr.heap.size wr w1) (hf : FR w1 wr.heap.size v U) : CS w (w1.setCell ⟨t2, 1, none⟩ v) t1 t2 va0 va1 gD cD DL DP DQ vr1 DU gN cN NL NP NQ v U := by
 have k := h.below hb
 have l1 := h.d.lt
 have l2 := h.n.lt
 have l3 := (h.ln.row.lt gN rfl).2
 have l4 := h.h2
 have nv : ∀ b, v.ownBlock = some b → wr.heap.size ≤ b := fun b e => (World.ownsRow.lt hf b e).1
 refine ⟨k.low.setCell (by show w.heap.size ≤ t2; omega) _, k.a.setAt _ _ (by show t2 ≠ w.heap.size; omega), k.r1.setAt _ _ (by show t2 ≠ w.heap.size + 1; omega), k.r2.setAt _ _ (by show t2 ≠ w.heap.size + 1 + 1; omega), k.d.setAt _ _ (Ne.symm h.h12), k.n.set1 _, k.ld.set _ _ (ob_some h.sd.2.1) (fun i hi => (h.pd i hi).2), k.ln.set _ _ (ob_some h.sn.2) (fun i hi => (h.pn i hi).2), k.fd.setFar _ _ (fun e => (h.s1 _ e).2.1 rfl), (hf.weak (by omega)).setFar _ _ (fun e => by have := nv _ e; have : wr.heap.size ≤ t2 := this; omega), h.h1, h.h2, h.h12, h.sd, h.sn, h.s1, fun b e => ?_, h.pd, h.pn⟩
 have := nv b e
 exact ⟨by omega, by omega, by omega⟩
theorem lc_box {g n c : Nat} {l : List Lf} {P Q : Nat → Nat} {lo t : Nat} {n0 c0 : Nat} {a0 : Option Addr} {u : Value} (h : LC w lo (.slice (some ⟨g, 0, none⟩) n c) l P Q) (hp : ∀ i, i < l.length → 1 ≤ (gL l i).p.length) (hb : Bx2 w t (.slice a0 n0 c0) u) : ∀ i, i < l.length → P i ≠ t := fun i hi e => by
 have hw := (h.pt i hi).2.2.2.1.cell (i := 0) (by have := hp i hi; omega)
 rw [e, hb.c0] at hw
 cases hw
theorem CS.setD0 {g2 c2 n2 : Nat} {l2 : List Lf} {P2 Q2 : Nat → Nat} (h : CS w wr t1 t2 va0 va1 gD cD DL DP DQ vr1 DU gN cN NL NP NQ vr2 NU) (hb : Below wr.heap.size wr w1) (hl : LC w1 (w.heap.size + 3) (.slice (some ⟨g2, 0, none⟩) n2 c2) l2 P2 Q2) (hn : n2 = l2.length) (hg : wr.heap.size ≤ g2) (hp : ∀ i, i < l2.length → 1 ≤ (gL l2 i).p.length) : CS w (w1.setCell ⟨t1, 0, none⟩ (.slice (some ⟨g2, 0, none⟩) n2 c2)) t1 t2 va0 va1 g2 c2 l2 P2 Q2 vr1 DU gN cN NL NP NQ vr2 NU := by
 subst hn
 have k := h.below hb
 have l1 := h.d.lt
 have l3 := h.n.lt
 have l5 := (h.ln.row.lt gN rfl).2
 have l4 := h.h1
 have q1 := lc_box hl hp k.d
 have q2 := lc_box hl hp k.n
 exact ⟨k.low.setCell (by show w.heap.size ≤ t1; omega) _, k.a.setAt _ _ (by show t1 ≠ w.heap.size; omega), k.r1.setAt _ _ (by show t1 ≠ w.heap.size + 1; omega), k.r2.setAt _ _ (by show t1 ≠ w.heap.size + 1 + 1; omega), k.d.set0 _, k.n.setAt _ _ h.h12, hl.set _ _ (ob_some (show g2 ≠ t1 by omega)) q1, k.ln.set _ _ (ob_some h.sn.1) (fun i hi => (h.pn i hi).1), k.fd.setFar _ _ (fun e => (h.s1 _ e).1 rfl), k.fn.setFar _ _ (fun e => (h.s2 _ e).1 rfl), h.h1, h.h2, h.h12, ⟨by omega, by omega, by omega⟩, h.sn, h.s1, h.s2, fun i hi => ⟨q1 i hi, q2 i hi⟩, h.pn⟩
theorem CS.setN0 {g2 c2 n2 : Nat} {l2 : List Lf} {P2 Q2 : Nat → Nat} (h : CS w wr t1 t2 va0 va1 gD cD DL DP DQ vr1 DU gN cN NL NP NQ vr2 NU) (hb : Below wr.heap.size wr w1) (hl : LC w1 (w.heap.size + 3) (.slice (some ⟨g2, 0, none⟩) n2 c2) l2 P2 Q2) (hn : n2 = l2.length) (hg : wr.heap.size ≤ g2) (hp : ∀ i, i < l2.length → 1 ≤ (gL l2 i).p.length) : CS w (w1.setCell ⟨t2, 0, none⟩ (.slice (some ⟨g2, 0, none⟩) n2 c2)) t1 t2 va0 va1 gD cD DL DP DQ vr1 DU g2 c2 l2 P2 Q2 vr2 NU := by
 subst hn
 have k := h.below hb
 have l1 := h.d.lt
 have l3 := h.n.lt
 have l5 := (h.ld.row.lt gD rfl).2
 have l4 := h.h2
 have q1 := lc_box hl hp k.d
 have q2 := lc_box hl hp k.n
 refine ⟨k.low.setCell (by show w.heap.size ≤ t2; omega) _, k.a.setAt _ _ (by show t2 ≠ w.heap.size; omega), k.r1.setAt _ _ (by show t2 ≠ w.heap.size + 1; omega), k.r2.setAt _ _ (by show t2 ≠ w.heap.size + 1 + 1; omega), k.d.setAt _ _ (Ne.symm h.h12), k.n.set0 _, k.ld.set _ _ (ob_some h.sd.2.1) (fun i hi => (h.pd i hi).2), hl.set _ _ (ob_some (show g2 ≠ t2 by omega)) q2, k.fd.setFar _ _ (fun e => (h.s1 _ e).2.1 rfl), k.fn.setFar _ _ (fun e => (h.s2 _ e).2.1 rfl), h.h1, h.h2, h.h12, ⟨h.sd.1, h.sd.2.1, by omega⟩, ⟨by omega, by omega⟩, fun b e => ?_, fun b e => ?_, h.pd, fun i hi => ⟨q1 i hi, q2 i hi⟩⟩
 ·have := (World.ownsRow.lt h.fd b e).2
  exact ⟨(h.s1 b e).1, (h.s1 b e).2.1, by omega⟩
 ·have := (World.ownsRow.lt h.fn b e).2
  exact ⟨(h.s2 b e).1, (h.s2 b e).2.1, by omega⟩
theorem CS.appN {y : Lf} {p pc : Nat} (h : CS w wr t1 t2 va0 va1 gD cD [] DP DQ vr1 DU gN cN NL NP NQ vr2 NU) (hb : Below wr.heap.size wr w1) (hk : NL.length ≤ 1048576) (hy : 1 ≤ y.p.length) (hp : ∀ i, i < NL.length → 1 ≤ (gL NL i).p.length) (hp1 : wr.heap.size ≤ p) (hp2 : p < w1.heap.size) (hw : Wr w1 p 9 y.p.length (fun t => .string (gS y.p t))) (hpc : y.p.length ≤ pc ∧ pc ≤ 9223372036854775807) :
  ∃ q' cap' w3, (Builtin.append_ #[31, 31] 31 #[.slice (some ⟨gN, 0, none⟩) NL.length cN, .slice (some ⟨w1.heap.size, 0, none⟩) 1 1]).run Tryz.prog (w1.alloc (.cells #[.slice (some ⟨p, 0, none⟩) y.p.length pc, .bool y.fl, .int .i64 y.r, .int .i64 y.q, .string y.v] 57)) = .ok (.slice (some ⟨q', 0, none⟩) (NL.length + 1) cap') w3 ∧ Below w.heap.size w w3 ∧ Bx2 w3 w.heap.size va0 va1 ∧ Bx2 w3 t2 (.slice (some ⟨gN, 0, none⟩) NL.length cN) vr2 ∧
   ∃ P' Q', CS w (w3.setCell ⟨t2, 0, none⟩ (.slice (some ⟨q', 0, none⟩) (NL.length + 1) cap')) t1 t2 va0 va1 gD cD [] DP DQ vr1 DU q' cap' (NL ++ [y]) P' Q' vr2 NU := by
 have k := h.below hb
 have hz := h.low.size
 have hz1 := hb.size
 have l1 := h.d.lt
 have l2 := h.n.lt
 have l3 := h.a.lt
 have l4 := h.r1.lt
 have l5 := h.r2.lt
 have l6 := h.ln.row.lt gN rfl
 have l7 := h.ld.row.lt gD rfl
 have h1 := h.h1
 have h2 := h.h2
 obtain ⟨q', cap', w3, happ, lc3, g3⟩ := h.ln.app hb (by omega) hk y p pc (by omega) hp2 (fun e => by simp [Value.ownBlock] at e; omega) hw hpc
 have hq : q' = gN ∨ w1.heap.size ≤ q' := by
  rcases g3.l with e | ⟨b, e, hb'⟩
  ·exact .inl (by simpa [Value.ownBlock] using e)
  ·have e3 : q' = b := by simpa [Value.ownBlock] using e
   exact .inr (by omega)
 have hq3 := (lc3.row.lt q' rfl).2
 have row : ∀ b, (Value.slice (some ⟨gN, 0, none⟩) NL.length cN).ownBlock = some b → b = gN := fun b e => by
  have : gN = b := by simpa [Value.ownBlock] using e
  exact this.symm
 have bx : ∀ {b : Nat} {u0 u1 : Value}, Bx2 w1 b u0 u1 → b ≠ gN → Bx2 w3 b u0 u1 := fun hB hne => hB.gr g3.g (fun b e => by rw [row b e]; exact fun e2 => hne e2.symm)
 have A3 := bx k.a (by omega)
 have R13 := bx k.r1 (by omega)
 have R23 := bx k.r2 (by omega)
 have D3 := bx k.d (fun e => h.sn.1 e.symm)
 have N3 := bx k.n (fun e => h.sn.2 e.symm)
 have FD3 : FR w3 (w.heap.size + 3) vr1 DU := k.fd.gr g3.g (fun b e e2 => (h.s1 b e).2.2 (row b e2.symm))
 have FN3 : FR w3 (w.heap.size + 3) vr2 NU := k.fn.gr g3.g (fun b e e2 => (h.s2 b e).2.2 (row b e2.symm))
 have LD3 : LC w3 (w.heap.size + 3) (.slice (some ⟨gD, 0, none⟩) ([] : List Lf).length cD) [] DP DQ := ⟨own_at5 k.ld.row (fun b e => by
  have e : gD = b := by simpa [Value.ownBlock] using e
  subst e
  exact g3.g.block gD (by omega) (fun e2 => h.sd.2.2 (row gD e2.symm))), fun i hi => by simp at hi⟩
 have low3 : Below w.heap.size w w3 := k.low.grown g3.g k.low.size (fun b e => by rw [row b e]; omega)
 have hpy : ∀ i, i < (NL ++ [y]).length → 1 ≤ (gL (NL ++ [y]) i).p.length := fun i hi => by
  by_cases e : i = NL.length
  ·rw [e, gL_end]; exact hy
  ·have hi' : i < NL.length := by simp at hi; omega
   rw [gL_pre NL y hi']; exact hp i hi'
 have q1 := lc_box lc3 hpy D3
 have q2 := lc_box lc3 hpy N3
 have hqt : q' ≠ t1 ∧ q' ≠ t2 ∧ gD ≠ q' := by
  rcases hq with e | e
  ·rw [e]; exact ⟨h.sn.1, h.sn.2, h.sd.2.2⟩
  ·exact ⟨by omega, by omega, by omega⟩
 have hln : NL.length + 1 = (NL ++ [y]).length := by simp
 refine ⟨q', cap', w3, happ, low3, A3, N3, (fun i => if i = NL.length then p else NP i), (fun i => if i = NL.length then pc else NQ i), ?_⟩
 rw [hln] at lc3 ⊢
 refine ⟨low3.setCell (by show w.heap.size ≤ t2; omega) _, A3.setAt _ _ (by show t2 ≠ w.heap.size; omega), R13.setAt _ _ (by show t2 ≠ w.heap.size + 1; omega), R23.setAt _ _ (by show t2 ≠ w.heap.size + 1 + 1; omega), D3.setAt _ _ (Ne.symm h.h12), N3.set0 _, LD3.set _ _ (ob_some h.sd.2.1) (fun i hi => by simp at hi), lc3.set _ _ (ob_some hqt.2.1) q2, FD3.setFar _ _ (fun e => (h.s1 _ e).2.1 rfl), FN3.setFar _ _ (fun e => (h.s2 _ e).2.1 rfl), h.h1, h.h2, h.h12, ⟨h.sd.1, h.sd.2.1, hqt.2.2⟩, ⟨hqt.1, hqt.2.1⟩, fun b e => ⟨(h.s1 b e).1, (h.s1 b e).2.1, ?_⟩, fun b e => ⟨(h.s2 b e).1, (h.s2 b e).2.1, ?_⟩, fun i hi => by simp at hi, fun i hi => ⟨q1 i hi, q2 i hi⟩⟩
 ·have := (World.ownsRow.lt h.fd b e).2
  rcases hq with e2 | e2
  ·rw [e2]; exact (h.s1 b e).2.2
  ·omega
 ·have := (World.ownsRow.lt h.fn b e).2
  rcases hq with e2 | e2
  ·rw [e2]; exact (h.s2 b e).2.2
  ·omega
end
end Go.Proofs.YtcbcabhjododoaaGreat
