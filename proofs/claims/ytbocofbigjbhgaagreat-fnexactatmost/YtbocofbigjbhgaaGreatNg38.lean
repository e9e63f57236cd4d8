import Derived.Test.YtbocofbigjbhgaaGreatNg37
import Derived.Test.YtbocofbigjbhgaaGreatNg13
set_option linter.unusedVariables false
set_option linter.unusedSimpArgs false

namespace Go.Proofs.YtbocofbigjbhgaaGreat
open Go.ChangeShapes Go.WideShapes Go.ChangeAt Go.RowKit Go.Maps
theorem LB.form {w : World} {lo : Nat} {v : Value} {l : List Lf} (h : LB w lo v l) : ∃ a c, v = .slice a l.length c := by
  obtain ⟨P, Q, h1, _⟩ := h
  rcases h1.row.2 with ⟨e, e0⟩ | ⟨g, cap, cur, e, _⟩
  · exact ⟨none, 0, by rw [e, e0]⟩
  · exact ⟨_, cap, e⟩
theorem LB.low {w : World} {lo lo' : Nat} {v : Value} {l : List Lf} (h : LB w lo v l) (hl : lo' ≤ lo) : LB w lo' v l := by
  obtain ⟨P, Q, h1, h2⟩ := h; exact ⟨P, Q, h1.low hl, h2⟩
theorem LB.set {w : World} {lo : Nat} {v : Value} {l : List Lf} (h : LB w lo v l) (q : Addr) (u : Value) (hq : q.block < lo) : LB (w.setCell q u) lo v l :=
  h.move (by simp [World.setCell]) (fun b h1 h2 => Below.heap_setCell _ _ _ _ (by omega))
theorem FR.setLow {w : World} {B : Nat} {v : Value} {l : List Rn} (h : FR w B v l) (q : Addr) (u : Value) (hq : q.block < B) : FR (w.setCell q u) B v l :=
  h.setFar q u (fun e => by have := (World.ownsRow.lt h _ e).1; omega)
theorem SOw.of {w : World} {lo : Nat} {a x : Option Addr} {c d : Nat} {S : Sx} {ul : List Rn} (h : LB w lo (.slice a S.l.length c) S.l) (hf : FR w lo (.slice x S.n d) ul) (hn : S.n = ul.length) (hR : S.R = fun i => (gR ul i).1) (hF : S.F = fun i => (gR ul i).2.1) (hT : S.T = fun i => (gR ul i).2.2) (hlo : lo ≤ w.heap.size) : SOw w lo w.heap.size a x d S := by
  obtain ⟨P, Q, h1, h2⟩ := h
  have hrn : RSeg w x S.n S.R S.F S.T := by
    obtain ⟨a', c', e, s, _, _⟩ := hf.fs
    injection e with e1 e2 e3
    subst e1
    rw [hn, hR, hF, hT]; exact s.rseg
  have hro : S.n = 0 ∨ ∃ g ys, x = some ⟨g, 0, none⟩ ∧ g < w.heap.size ∧ w.ownsRow lo 76 3 (.slice (some ⟨g, 0, none⟩) S.n d) S.n ys := by
    have hf' : w.ownsRow lo 76 3 (.slice x S.n d) S.n (fCells ul) := by have := hf; unfold FR at this; rw [hn]; rw [hn] at this; exact this
    rcases hf'.2 with ⟨e, e0⟩ | ⟨g, cap, cur, e, r⟩
    · exact .inl e0
    · injection e with e1 e2 e3
      subst e1
      exact .inr ⟨g, _, rfl, (World.ownsRow.lt hf' g rfl).2, hf'⟩
  rcases h1.row.2 with ⟨e, e0⟩ | ⟨g, cap, cur, e, r⟩
  · exact ⟨.inl e0, hrn, .inl e0, hro, hlo, Nat.le_refl _⟩
  · injection e with e1 e2 e3
    subst e1
    refine ⟨h1.lseg rfl, hrn, .inr ⟨g, fun i => some ⟨P i, 0, none⟩, Q, P, rfl, ⟨(h1.lt g rfl).1, (h1.lt g rfl).2, fun i hi _ => ?_, fun i j hi hj _ _ hne => h2 i j hi hj hne⟩, fun k0 => ⟨Btw.refl _ _ _, fun _ _ _ => rfl, ⟨_, own_wrF h1.row⟩, fun i hi => (h1.cell rfl hi).1, fun i _ hi _ => (h1.pt i hi).2.2.2.1.pmk, fun i hi => by omega, fun i hi => by omega⟩⟩, hro, hlo, Nat.le_refl _⟩
    obtain ⟨q1, q2, q3, _⟩ := h1.pt i hi
    exact ⟨rfl, fun e => q3 (by rw [e]; rfl), q1, q2⟩
theorem SOw.emp (w : World) (a x : Option Addr) (d lo : Nat) (hlo : lo ≤ w.heap.size) : SOw w lo w.heap.size a x d Sx.mt := ⟨.inl rfl, .inl rfl, .inl rfl, .inl rfl, hlo, Nat.le_refl _⟩
set_option maxRecDepth 100000 in
set_option maxHeartbeats 2000000 in
theorem stateC {z0 : Nat × Nat} {bd : Nat} {J : List Lf} {ul : List Rn} {R F T : Nat → Int} {m : Nat} (w : World) (h : LvJ w z0 bd J ul) (hlv : LvOk R F T m J J.length) (hbd : LvB J) :
    Calls Tryz.prog 28 #[.agg #[.map (some z0.1), .map (some z0.2), .map (some bd)]] w fun e w' => (∃ a c x d, e = .returned (.agg #[.slice a J.length c, .slice x ul.length d]) ∧ LB w' (w.heap.size + 2) (.slice a J.length c) J ∧ FR w' (w.heap.size + 2) (.slice x ul.length d) ul ∧ w.heap.size + 2 ≤ w'.heap.size) ∧ Below w.heap.size w w' := by
  obtain ⟨W, hW⟩ : ∃ W, (w.alloc (.cells #[.map (some z0.1), .map (some z0.2), .map (some bd)] 56)).alloc (.cells #[.slice none 0 0, .slice none 0 0] 35) = W := ⟨_, rfl⟩
  have b0 : Below w.heap.size w W := by rw [← hW]; exact below2 _ _ _
  have X0 : Bx3 W w.heap.size (.map (some z0.1)) (.map (some z0.2)) (.map (some bd)) := by rw [← hW]; exact (Bx3.made _ _ _ _ _).below ((Below.refl _ _).alloc (Nat.le_refl _) _) (Bx3.made _ _ _ _ _).lt
  have R0 : Bx2 W (w.heap.size + 1) (.slice none 0 0) (.slice none 0 0) := by rw [← hW]; simpa using Bx2.made (w.alloc (.cells #[.map (some z0.1), .map (some z0.2), .map (some bd)] 56)) (.slice none 0 0) (.slice none 0 0) 35
  have zW : W.heap.size = w.heap.size + 2 := by rw [← hW]; simp
  obtain ⟨N, B, c, n, D, G, L, h1, h2, h3, h4, h5, h6⟩ := h.below b0
  have hTJ := h1.tj hbd.dis
  have HAL : Hid (∀ w1, Below W.heap.size W w1 → Calls Tryz.prog 59 #[.agg #[.map (some z0.1), .map (some z0.2)], .slice none 0 0, .slice none 0 0] w1 fun e w' => (∃ a c, e = .returned (.slice a J.length c) ∧ LB w' W.heap.size (.slice a J.length c) J) ∧ Below w1.heap.size w1 w') := hid (fun w1 b1 => by
    have := appendLeavesN J W B c N (by simpa using h1.tre) (hTJ.nki (by rw [h1.root]; simp)) h2 hlv hbd 8 [] rfl (by omega) (.slice none 0 0) [] (.slice none 0 0) w1 b1 (LB.nil w1 _) (.inl ⟨rfl, rfl⟩) (fun g hg => by cases hg) (by rw [wL_all hlv]; have := hbd.len; simp; omega)
    rw [show wayOf [] 3 = ([] : List Ky) from rfl, h1.root] at this
    refine this.mono ?_
    rintro e w' ⟨v, rfl, lb, g⟩
    rw [wL_all hlv, List.nil_append] at lb
    obtain ⟨a, c, rfl⟩ := lb.form
    exact ⟨⟨a, c, rfl, lb⟩, g.below (Nat.le_refl _) (fun k hk => by cases hk)⟩)
  have HCX : Hid (∀ w1, Below W.heap.size W w1 → Calls Tryz.prog 60 #[.map (some bd)] w1 fun e w' => (∃ x d, e = .returned (.agg #[.slice x ul.length d]) ∧ FR w' W.heap.size (.slice x ul.length d) ul) ∧ Below w1.heap.size w1 w') := hid (fun w1 b1 => by
    have := contextM (h3.below b1) h5 h6
    rw [h4] at this
    refine this.mono ?_
    rintro e w' ⟨v, rfl, hf, b⟩
    obtain ⟨a, c, rfl, _⟩ := hf.fs
    exact ⟨⟨a, c, rfl, hf.weak b1.size⟩, b⟩)
  have HX := hid X0
  have HR := hid R0
  have HB0 := hid b0
  have HZW := hid zW
  have HSE : Hid (∀ w', Below W.heap.size W w' → (w'.cell? ⟨w.heap.size, 0, none⟩ = some (.map (some z0.1)) ∧ w'.cell? ⟨w.heap.size, 1, none⟩ = some (.map (some z0.2)) ∧ w'.cell? ⟨w.heap.size, 2, none⟩ = some (.map (some bd)))) := hid (fun w' b => by
    have A1 := HX.out.below b HX.out.lt
    exact ⟨A1.c0, A1.c1, A1.c2⟩)
  clear b0 X0 R0 zW h h1 h2 h3 h4 h5 h6 hTJ hlv hbd
  go_enter Tryz.func28, Tryz.ntmps28
  go_wp2_with fail
  try rw [hW]
  clear hW
  refine wp_region_held_drew (S := fun w' => w'.cell? ⟨w.heap.size, 0, none⟩ = some (.map (some z0.1)) ∧ w'.cell? ⟨w.heap.size, 1, none⟩ = some (.map (some z0.2)) ∧ w'.cell? ⟨w.heap.size, 2, none⟩ = some (.map (some bd))) (by kernel_rfl) (HSE.out _ (Below.refl _ _).drew) (fun hHeld => ?_)
  refine tk 0 3 ?_ (by kernel_rfl) (by kernel_rfl) (fun _ _ _ h => h) ?_ hHeld ?_
  rotate_left
  · (intro o ho; simp only [gZa, gZb, gZc, gZd] at ho; subst ho; refine Or.inl ⟨by rfl, ?_⟩; intro w hSw; (try dsimp only at hSw); go_simp; try with_reducible rfl)
  try simp only [Act.put, sZa, sZb, sZc]
  refine tk 1 4 ?_ (by kernel_rfl) (by kernel_rfl) (fun _ _ _ h => h) ?_ hHeld ?_
  rotate_left
  · (intro o ho; simp only [gZa, gZb, gZc, gZd] at ho; subst ho; refine Or.inl ⟨by rfl, ?_⟩; intro w hSw; (try dsimp only at hSw); go_simp; try with_reducible rfl)
  try simp only [Act.put, sZa, sZb, sZc]
  refine tk 3 6 ?_ (by kernel_rfl) (by kernel_rfl) (fun _ _ _ h => h) ?_ hHeld ?_
  rotate_left
  · (intro o ho; simp only [gZa, gZb, gZc, gZd] at ho; subst ho; refine Or.inl ⟨by rfl, ?_⟩; intro w hSw; (try dsimp only at hSw); go_simp; try with_reducible rfl)
  try simp only [Act.put, sZa, sZb, sZc]
  refine tk 4 7 ?_ (by kernel_rfl) (by kernel_rfl) (fun _ _ _ h => h) ?_ hHeld ?_
  rotate_left
  · (intro o ho; simp only [gZa, gZb, gZc, gZd] at ho; subst ho; refine Or.inl ⟨by rfl, ?_⟩; intro w hSw; (try dsimp only at hSw); go_simp; try with_reducible rfl)
  try simp only [Act.put, sZa, sZb, sZc]
  refine call1 (i := 2) (d := some 5) (by kernel_rfl) (by kernel_rfl) ?_
  intro o ho hod K hK; simp only [gZa, gZb, gZc, gZd] at ho; subst ho
  go_simp
  refine (HAL.out _ (Below.refl _ _).drew).mono ?_
  rintro e w1 ⟨⟨a, c, rfl, lb⟩, b1⟩
  have b1' : Below W.heap.size W w1 := ⟨b1.os, b1.tape, b1.output, b1.size, b1.block⟩
  have HLB := hid lb
  clear lb
  refine hK.out _ _ (HSE.out _ b1') (fun hHeld => ?_)
  clear hK K
  try simp only [Act.put, sZa, sZb, sZc]
  refine call1 (i := 5) (d := some 8) (by kernel_rfl) (by kernel_rfl) ?_
  intro o ho hod K hK; simp only [gZa, gZb, gZc, gZd] at ho; subst ho
  go_simp
  refine (HCX.out _ b1').mono ?_
  rintro e w2 ⟨⟨x, d, rfl, hf⟩, b2⟩
  have b2' := keepS b1' b2
  have HFR := hid hf
  have HL2 := hid (HLB.out.below b2)
  have R2 := HR.out.below b2' HR.out.lt
  clear hf
  refine hK.out _ _ (HSE.out _ b2') (fun hHeld => ?_)
  clear hK K
  try simp only [Act.put, sZa, sZb, sZc]
  refine tk 6 9 ?_ (by kernel_rfl) (by kernel_rfl) (fun _ _ _ h => h) ?_ hHeld ?_
  rotate_left
  · (intro o ho; simp only [gZa, gZb, gZc, gZd] at ho; subst ho; refine Or.inl ⟨by rfl, ?_⟩; intro w hSw; (try dsimp only at hSw); go_simp; try with_reducible rfl)
  try simp only [Act.put, sZa, sZb, sZc]
  have t0 := R2.c0
  have t1 := R2.c1
  have tf := R2.f
  have HR3 := hid (R2.set (.slice a J.length c) (.slice x ul.length d))
  have HX3 := hid (((HX.out.below b2' HX.out.lt).far (grownSet w2 ⟨w.heap.size + 1, 0, none⟩ (.slice a J.length c)) (by show w.heap.size ≠ w.heap.size + 1; omega)).far (grownSet _ ⟨w.heap.size + 1, 1, none⟩ (.slice x ul.length d)) (by show w.heap.size ≠ w.heap.size + 1; omega))
  have HB9 := hid (keepS HB0.out b2')
  have HZ2 : Hid (w.heap.size + 2 ≤ w2.heap.size) := hid (by have h1 := HZW.out; have h2 := b2'.size; omega)
  have HL9 : Hid (LB ((w2.setCell ⟨w.heap.size + 1, 0, none⟩ (.slice a J.length c)).setCell ⟨w.heap.size + 1, 1, none⟩ (.slice x ul.length d)) (w.heap.size + 2) (.slice a J.length c) J) := hid (by
    have h1 := HL2.out
    rw [HZW.out] at h1
    exact (h1.set _ _ (by show w.heap.size + 1 < w.heap.size + 2; omega)).set _ _ (by show w.heap.size + 1 < w.heap.size + 2; omega))
  have HF9 : Hid (FR ((w2.setCell ⟨w.heap.size + 1, 0, none⟩ (.slice a J.length c)).setCell ⟨w.heap.size + 1, 1, none⟩ (.slice x ul.length d)) (w.heap.size + 2) (.slice x ul.length d) ul) := hid (by
    have h1 := HFR.out
    rw [HZW.out] at h1
    exact (h1.setLow _ _ (by show w.heap.size + 1 < w.heap.size + 2; omega)).setLow _ _ (by show w.heap.size + 1 < w.heap.size + 2; omega))
  refine call1 (i := 7) (d := none) (by kernel_rfl) (by kernel_rfl) ?_
  intro o ho hod K hK; simp only [gZa, gZb, gZc, gZd] at ho; subst ho
  go_simp
  refine hK.out _ _ ⟨HX3.out.c0, HX3.out.c1, HX3.out.c2⟩ (fun hHeld => ?_)
  clear hK K
  try simp only [Act.put, sZa, sZb, sZc]
  refine wpAnyH_done (by kernel_rfl) ?_ _
  clear hHeld b1 b1' b2 b2' R2 t0 t1 tf HSE HAL HCX
  go_wp2_with fail
  have s0 := HR3.out.c0
  have s1 := HR3.out.c1
  refine bodyPost_ret (v := .agg #[.slice a J.length c, .slice x ul.length d]) (by simp [results, Tryz.results28, go_sem, s0, s1]) rfl ⟨⟨a, c, x, d, rfl, HL9.out, HF9.out, by simp [World.setCell]; have := HZ2.out; omega⟩, ?_⟩
  exact (HB9.out.setCell (by simp) _).setCell (by simp) _
end Go.Proofs.YtbocofbigjbhgaaGreat

namespace Go.Proofs.YtbocofbigjbhgaaGreat
open Go.ChangeShapes Go.WideShapes Go.ChangeAt Go.RowKit Go.Maps
theorem openB (a x : Option Addr) (c d : Nat) (S : Sx) (w : World) (hm : S.Sm) (hi : ∀ i, LfI (gL S.l i)) (h : SAt w a x S) :
    Calls Tryz.prog 25 #[.agg #[.slice a S.l.length c, .slice x S.n d]] w fun e w' => (∃ u0 u1 u2, e = .returned (.tuple #[.agg #[.map u0, .map u1, .map u2], .bool (stB S)]) ∧ (stB S = true → ∃ x0 bm, u0 = some (Prod.fst x0) ∧ u1 = some (Prod.snd x0) ∧ u2 = some bm ∧ OpA w' x0 bm S)) ∧ Below w.heap.size w w' := by
  cases hb : stB S with
  | true =>
    refine (openStateK a c S.l x S.n d S.R S.F S.T w hm.l1 hm.p1 hi hm.n1 h.lf h.rn (stB_t hb)).mono ?_
    rintro e w' ⟨⟨x0, bm, D, G, N, B, rfl, h1, _, _, _, h2, h3, h4⟩, b⟩
    exact ⟨⟨_, _, _, rfl, fun _ => ⟨x0, bm, rfl, rfl, rfl, D, G, N, B, h1, h2, h3, h4⟩⟩, b⟩
  | false =>
    refine (openStateNo a c S.l x S.n d S.R S.F S.T w hm.l1 hm.p1 hi hm.n1 h.lf h.rn (stB_f hb)).mono ?_
    rintro e w' ⟨rfl, b⟩
    exact ⟨⟨_, _, _, rfl, fun h => by cases h⟩, b⟩
set_option maxRecDepth 100000 in
set_option maxHeartbeats 4000000 in
theorem implJoinC (a x a' x' : Option Addr) (c d c' d' : Nat) (S S' : Sx) (w : World) (hm : S.Sm) (hm' : S'.Sm) (hi : ∀ i, LfI (gL S.l i)) (hi' : ∀ i, LfI (gL S'.l i)) (h : SAt w a x S) (h' : SAt w a' x' S') :
    Calls Tryz.prog 11 #[.agg #[.slice a S.l.length c, .slice x S.n d], .agg #[.slice a' S'.l.length c', .slice x' S'.n d']] w fun e w' => ∃ ja jc jx jd, e = .returned (.tuple #[.agg #[.slice ja (jnZ S S').l.length jc, .slice jx (jnZ S S').n jd], .bool (jnB S S')]) ∧ SOw w' w.heap.size w'.heap.size ja jx jd (jnZ S S') ∧ Below w.heap.size w w' := by
  obtain ⟨W, hW⟩ : ∃ W, ((w.alloc (.cells #[.slice a S.l.length c, .slice x S.n d] 35)).alloc (.cells #[.slice a' S'.l.length c', .slice x' S'.n d'] 35)).alloc (.cells #[.slice none 0 0, .slice none 0 0] 35) = W := ⟨_, rfl⟩
  have b0 : Below w.heap.size w W := by rw [← hW]; exact (below2 _ _ _).alloc (by simp; omega) _
  have A0 : Bx2 W w.heap.size (.slice a S.l.length c) (.slice x S.n d) := by rw [← hW]; exact ((Bx2.made w _ _ _).allocs _).allocs _
  have B0 : Bx2 W (w.heap.size + 1) (.slice a' S'.l.length c') (.slice x' S'.n d') := by
    rw [← hW]
    have := Bx2.made (w.alloc (.cells #[.slice a S.l.length c, .slice x S.n d] 35)) (.slice a' S'.l.length c') (.slice x' S'.n d') 35
    exact (by simpa using this : Bx2 _ (w.heap.size + 1) _ _).allocs _
  have R0 : Bx2 W (w.heap.size + 1 + 1) (.slice none 0 0) (.slice none 0 0) := by
    rw [← hW]
    simpa using Bx2.made ((w.alloc (.cells #[.slice a S.l.length c, .slice x S.n d] 35)).alloc (.cells #[.slice a' S'.l.length c', .slice x' S'.n d'] 35)) (.slice none 0 0) (.slice none 0 0) 35
  have zW : W.heap.size = w.heap.size + 3 := by rw [← hW]; simp
  have HOP := hid (openB a x c d S W hm hi (h.below b0))
  have HOP' := hid (fun w1 (b1 : Below W.heap.size W w1) => openB a' x' c' d' S' w1 hm' hi' ((h'.below b0).below b1))
  have HBB := hid B0
  have HR0 := hid R0
  have HB0 := hid b0
  have HZW := hid zW
  have k0 := A0.c0
  have k1 := A0.c1
  obtain ⟨V, hV⟩ : ∃ V, stB S = V := ⟨_, rfl⟩
  obtain ⟨V', hV'⟩ : ∃ V, stB S' = V := ⟨_, rfl⟩
  have HSB := hid hV
  have HSB' := hid hV'
  rw [hV] at HOP
  rw [hV'] at HOP'
  clear b0 A0 B0 R0 zW h h' hV hV' hi hi'
  go_enter Tryz.func11, Tryz.ntmps11
  go_wp2_with fail
  try rw [hW]
  clear hW
  refine HOP.out.mono ?_
  rintro e w1 ⟨⟨u0, u1, u2, rfl, ho⟩, b1⟩
  have HO1 := hid ho
  obtain ⟨w2, hw2⟩ : ∃ w2, w1.alloc (.cells #[.map u0, .map u1, .map u2] 56) = w2 := ⟨_, rfl⟩
  have b2 : Below w1.heap.size w1 w2 := by rw [← hw2]; exact (Below.refl _ _).alloc (Nat.le_refl _) _
  have HX2 : Hid (Bx3 w2 w1.heap.size (.map u0) (.map u1) (.map u2)) := hid (by rw [← hw2]; exact Bx3.made _ _ _ _ _)
  have HW2 := hid (keepS b1 b2)
  have HB12 := hid b2
  have HB2 := hid (HB0.out.trans (HW2.out.mono HB0.out.size))
  have l0 := (HBB.out.below HW2.out HBB.out.lt).c0
  have l1 := (HBB.out.below HW2.out HBB.out.lt).c1
  clear b1 b2 ho k0 k1 HOP
  go_wp2_with fail
  try rw [hw2]
  clear hw2
  refine (HOP'.out w2 HW2.out).mono ?_
  rintro e w3 ⟨⟨v0, v1, v2, rfl, ho⟩, b3⟩
  have HO3 := hid ho
  obtain ⟨w4, hw4⟩ : ∃ w4, w3.alloc (.cells #[.map v0, .map v1, .map v2] 56) = w4 := ⟨_, rfl⟩
  have b4 : Below w3.heap.size w3 w4 := by rw [← hw4]; exact (Below.refl _ _).alloc (Nat.le_refl _) _
  have HX4 : Hid (Bx3 w4 w3.heap.size (.map v0) (.map v1) (.map v2)) := hid (by rw [← hw4]; exact Bx3.made _ _ _ _ _)
  have HB34 := hid b4
  have HB24 := hid (keepS b3 b4)
  have HW4 := hid (keepS HW2.out HB24.out)
  have HB4 := hid (HB0.out.trans (HW4.out.mono HB0.out.size))
  have HR4 := hid (HR0.out.below HW4.out HR0.out.lt)
  clear b3 b4 ho l0 l1 HOP'
  cases V with
  | false =>
    have HZ : Hid (jnB S S' = false ∧ jnZ S S' = Sx.mt) := hid (by
      have e : jnB S S' = false := by unfold jnB; rw [HSB.out]; rfl
      exact ⟨e, jnZ_f e⟩)
    have r0 := HR4.out.c0
    have r1 := HR4.out.c1
    have f0 := HR4.out.f 0
    have f1 := HR4.out.f 1
    have HC := hid (HR4.out.set (.slice none 0 0) (.slice none 0 0))
    go_wp2_with fail
    have s0 := HC.out.c0
    have s1 := HC.out.c1
    refine bodyPost_ret (v := .tuple #[.agg #[.slice none 0 0, .slice none 0 0], .bool false]) (by simp [results, Tryz.results11, go_sem, s0, s1]) rfl ⟨none, 0, none, 0, by rw [HZ.out.1, HZ.out.2]; rfl, ?_, ?_⟩
    · rw [HZ.out.2]; exact SOw.emp _ _ _ _ _ (by simp [World.setCell]; exact HB4.out.size)
    · exact (HB4.out.setCell (by simp; omega) _).setCell (by simp; omega) _
  | true =>
    cases V' with
    | false =>
      have HZ : Hid (jnB S S' = false ∧ jnZ S S' = Sx.mt) := hid (by
        have e : jnB S S' = false := by unfold jnB; rw [HSB'.out]; simp
        exact ⟨e, jnZ_f e⟩)
      have r0 := HR4.out.c0
      have r1 := HR4.out.c1
      have f0 := HR4.out.f 0
      have f1 := HR4.out.f 1
      have HC := hid (HR4.out.set (.slice none 0 0) (.slice none 0 0))
      go_wp2_with fail
      have s0 := HC.out.c0
      have s1 := HC.out.c1
      refine bodyPost_ret (v := .tuple #[.agg #[.slice none 0 0, .slice none 0 0], .bool false]) (by simp [results, Tryz.results11, go_sem, s0, s1]) rfl ⟨none, 0, none, 0, by rw [HZ.out.1, HZ.out.2]; rfl, ?_, ?_⟩
      · rw [HZ.out.2]; exact SOw.emp _ _ _ _ _ (by simp [World.setCell]; exact HB4.out.size)
      · exact (HB4.out.setCell (by simp; omega) _).setCell (by simp; omega) _
    | true =>
      obtain ⟨x0, bm, rfl, rfl, rfl, o1⟩ := HO1.out rfl
      obtain ⟨y0, bm', rfl, rfl, rfl, o3⟩ := HO3.out rfl
      have hs := stB_t HSB.out
      have hs' := stB_t HSB'.out
      have HJL := hid (joinLiveC w4 ((o1.below HB12.out).below HB24.out) (o3.below HB34.out) hs hs')
      have HLE : Hid ((jnS S S').l.length ≤ 2000 ∧ (jnU S S').length ≤ 2000) := hid (jn_len hs hs')
      have HDI := hid (And.intro (jn_dis hs hs') (And.intro (fun x hx => (jn_bd hs hs' x hx).2.2.2) (And.intro (jn_lv hs hs') (fun hl => jn_lvB hs hs' hl))))
      have X2 := HX2.out.below HB24.out HX2.out.lt
      have p0 := X2.c0
      have p1 := X2.c1
      have p2 := X2.c2
      have q0 := HX4.out.c0
      have q1 := HX4.out.c1
      have q2 := HX4.out.c2
      clear o1 o3 hs hs' X2 HO1 HO3
      go_wp2_with fail
      try rw [hw4]
      clear hw4
      refine HJL.out.mono ?_
      rintro e w5 ⟨⟨z0, bd, rfl, lv⟩, b5⟩
      obtain ⟨w6, hw6⟩ : ∃ w6, w5.alloc (.cells #[.map (some z0.1), .map (some z0.2), .map (some bd)] 56) = w6 := ⟨_, rfl⟩
      have b6 : Below w5.heap.size w5 w6 := by rw [← hw6]; exact (Below.refl _ _).alloc (Nat.le_refl _) _
      have X6 : Bx3 w6 w5.heap.size (.map (some z0.1)) (.map (some z0.2)) (.map (some bd)) := by rw [← hw6]; exact Bx3.made _ _ _ _ _
      have HX6 := hid X6
      have HLV := hid (lv.below b6)
      have HB46 := hid (keepS b5 b6)
      have HB6 := hid (HB4.out.trans (HB46.out.mono HB4.out.size))
      have HR6 := hid (HR4.out.below HB46.out HR4.out.lt)
      have HWI := hid (withinC w6 HLV.out HDI.out.1 HDI.out.2.1 (by have := HLE.out; omega) (by have := HLE.out; omega))
      have HFE : Hid ((decide ((jnS S S').l.length ≤ 1000) && decide ((jnU S S').length ≤ 1000)) = jnF S S') := hid rfl
      rw [HFE.out] at HWI
      obtain ⟨B, hB⟩ : ∃ B, jnF S S' = B := ⟨_, rfl⟩
      have HJF := hid hB
      rw [hB] at HWI
      have e0 := X6.c0
      have e1 := X6.c1
      have e2 := X6.c2
      clear lv b5 b6 X6 hB HFE p0 p1 p2 q0 q1 q2 HJL
      go_wp2_with fail
      try rw [hw6]
      clear hw6
      refine HWI.out.mono ?_
      rintro e w7 ⟨rfl, b7⟩
      have HB7 := hid (HB6.out.trans (b7.mono HB6.out.size))
      have HR7 := hid (HR6.out.below b7 HR6.out.lt)
      have X7 := HX6.out.below b7 HX6.out.lt
      have HLV7 := hid (HLV.out.below b7)
      have g0 := X7.c0
      have g1 := X7.c1
      have g2 := X7.c2
      clear b7 X7 e0 e1 e2 HWI
      cases B with
      | false =>
        have HZ : Hid (jnB S S' = false ∧ jnZ S S' = Sx.mt) := hid (by
          have e : jnB S S' = false := by unfold jnB; rw [HJF.out]; simp
          exact ⟨e, jnZ_f e⟩)
        have r0 := HR7.out.c0
        have r1 := HR7.out.c1
        have f0 := HR7.out.f 0
        have f1 := HR7.out.f 1
        have HC := hid (HR7.out.set (.slice none 0 0) (.slice none 0 0))
        go_wp2_with fail
        have s0 := HC.out.c0
        have s1 := HC.out.c1
        refine bodyPost_ret (v := .tuple #[.agg #[.slice none 0 0, .slice none 0 0], .bool false]) (by simp [results, Tryz.results11, go_sem, s0, s1]) rfl ⟨none, 0, none, 0, by rw [HZ.out.1, HZ.out.2]; rfl, ?_, ?_⟩
        · rw [HZ.out.2]; exact SOw.emp _ _ _ _ _ (by simp [World.setCell]; exact HB7.out.size)
        · exact (HB7.out.setCell (by simp; omega) _).setCell (by simp; omega) _
      | true =>
        have HZ : Hid (jnB S S' = true ∧ jnZ S S' = jnS S S') := hid (by
          have e : jnB S S' = true := by unfold jnB; rw [HJF.out, HSB.out, HSB'.out]; rfl
          exact ⟨e, jnZ_t e⟩)
        have HST := hid (stateC w7 HLV7.out HDI.out.2.2.1 (HDI.out.2.2.2 (by have := HJF.out; unfold jnF at this; simp at this; exact this.1)))
        obtain ⟨JL, hJL⟩ : ∃ JL, (jnS S S').l.length = JL := ⟨_, rfl⟩
        obtain ⟨JU, hJU⟩ : ∃ JU, (jnU S S').length = JU := ⟨_, rfl⟩
        rw [hJL, hJU] at HST
        have HJL := hid hJL
        have HJU := hid hJU
        clear hJL hJU
        go_wp2_with fail
        refine HST.out.mono ?_
        rintro e w8 ⟨⟨ja, jc, jx, jd, rfl, lb, fr, hz⟩, b8⟩
        have R8 := HR7.out.below b8 HR7.out.lt
        have r0 := R8.c0
        have r1 := R8.c1
        have f0 := R8.f 0
        have f1 := R8.f 1
        have HC := hid (R8.set (.slice ja JL jc) (.slice jx JU jd))
        have HB8 := hid (HB7.out.trans (b8.mono HB7.out.size))
        have HZ7 : Hid (w.heap.size + 1 + 1 < w7.heap.size) := hid HR7.out.lt
        have HLB := hid lb
        have HFR := hid fr
        have HHZ := hid hz
        clear lb fr hz b8 R8 g0 g1 g2
        go_wp2_with fail
        have s0 := HC.out.c0
        have s1 := HC.out.c1
        refine bodyPost_ret (v := .tuple #[.agg #[.slice ja JL jc, .slice jx JU jd], .bool true]) (by simp [results, Tryz.results11, go_sem, s0, s1]) rfl ⟨ja, jc, jx, jd, by rw [HZ.out.1, HZ.out.2, HJL.out, show (jnS S S').n = JU from HJU.out], ?_, ?_⟩
        · rw [HZ.out.2]
          have hz7 := HZ7.out
          have hb8 := HB8.out.size
          have l9 := ((HLB.out.set ⟨w.heap.size + 1 + 1, 0, none⟩ (.slice ja JL jc) (by show w.heap.size + 1 + 1 < w7.heap.size + 2; omega)).set ⟨w.heap.size + 1 + 1, 1, none⟩ (.slice jx JU jd) (by show w.heap.size + 1 + 1 < w7.heap.size + 2; omega)).low (show w.heap.size ≤ w7.heap.size + 2 by omega)
          have f9 := ((HFR.out.setLow ⟨w.heap.size + 1 + 1, 0, none⟩ (.slice ja JL jc) (by show w.heap.size + 1 + 1 < w7.heap.size + 2; omega)).setLow ⟨w.heap.size + 1 + 1, 1, none⟩ (.slice jx JU jd) (by show w.heap.size + 1 + 1 < w7.heap.size + 2; omega)).weak (show w.heap.size ≤ w7.heap.size + 2 by omega)
          exact SOw.of (ul := jnU S S') (by rw [HJL.out]; exact l9) (by rw [show (jnS S S').n = JU from HJU.out]; exact f9) rfl rfl rfl rfl (by simp [World.setCell]; exact hb8)
        · exact (HB8.out.setCell (by simp; omega) _).setCell (by simp; omega) _
end Go.Proofs.YtbocofbigjbhgaaGreat

namespace Go.Proofs.YtbocofbigjbhgaaGreat
open Go.ChangeShapes Go.WideShapes Go.ChangeAt Go.RowKit Go.Deep
theorem SOw.same {w w' : World} {lo hi : Nat} {a x : Option Addr} {d : Nat} {S : Sx} (h : SOw w lo hi a x d S) (hs : w.heap.size ≤ w'.heap.size) (hq : ∀ q, lo ≤ q → q < hi → w'.heap[q]? = w.heap[q]?) : SOw w' lo hi a x d S := by
  refine ⟨?_, ?_, h.lv.imp id (fun ⟨b, P, Q, G, e, hw, hI⟩ => ⟨b, P, Q, G, e, hw, fun k0 => (hI k0).zero hw hq⟩), ?_, h.hl.1, Nat.le_trans h.hl.2 hs⟩
  · rcases h.lv with h0 | ⟨b, P, Q, G, e, hw, hI⟩
    · exact .inl h0
    · have I := hI 0
      rcases h.lf with h0 | ⟨b', off, e', hb, hc⟩
      · exact .inl h0
      · rw [e] at e'
        have e1 : b = b' := congrArg Addr.block (Option.some.inj e')
        have e2 : 0 = off := congrArg Addr.off (Option.some.inj e')
        have eb : w'.heap[b]? = w.heap[b]? := hq b hw.b1 hw.b2
        have q1 : ∀ j, w'.cell? ⟨b, j, none⟩ = w.cell? ⟨b, j, none⟩ := fun j => World.cell?_of_block (a := ⟨b, j, none⟩) eb
        rw [← e1, ← e2] at hc
        refine .inr ⟨b, 0, e, by rw [e1]; omega, fun i hi' => ?_⟩
        obtain ⟨pa, pc, c0, hss, c1, c2, c3, c4⟩ := hc i hi'
        refine ⟨pa, pc, by rw [q1]; exact c0, ?_, by rw [q1]; exact c1, by rw [q1]; exact c2, by rw [q1]; exact c3, by rw [q1]; exact c4⟩
        rcases hss with h0 | ⟨g, o, e3, hg, hcc⟩
        · exact .inl h0
        · by_cases hz : (gL S.l i).p.length = 0
          · exact .inl hz
          · have hwi := hw.g1 i hi' (by omega)
            have c0' := I.pth i hi'
            rw [Nat.zero_add] at c0
            rw [c0] at c0'
            have e4 : pa = P i := by injection (Option.some.inj c0')
            rw [hwi.1, e3] at e4
            have e5 : g = G i := congrArg Addr.block (Option.some.inj e4)
            have eg : w'.heap[g]? = w.heap[g]? := by rw [e5]; exact hq _ hwi.2.2.1 hwi.2.2.2
            exact .inr ⟨g, o, e3, by omega, fun t ht => (World.cell?_of_block (a := ⟨g, _, none⟩) eg).trans (hcc t ht)⟩
  · rcases h.ro with h0 | ⟨g, ys, e, hg, ho⟩
    · exact .inl h0
    · have eg := hq g (ho.lt g rfl).1 hg
      exact h.rn.same hs (fun y hy => by rw [e] at hy; have := Option.some.inj hy; rw [← this]; exact eg)
  · rcases h.ro with h0 | ⟨g, ys, e, hg, ho⟩
    · exact .inl h0
    · exact .inr ⟨g, ys, e, hg, own_at5 ho fun q hq' => by
        have e1 : g = q := by simpa [Value.ownBlock] using hq'
        rw [← e1]; exact hq g (ho.lt g rfl).1 hg⟩
theorem SOw.below {w w' : World} {lo hi : Nat} {a x : Option Addr} {d : Nat} {S : Sx} (h : SOw w lo hi a x d S) (hb : Below w.heap.size w w') : SOw w' lo hi a x d S :=
  h.same hb.size (fun q _ h2 => hb.block q (Nat.lt_of_lt_of_le h2 h.hl.2))
theorem SOw.set {w : World} {lo hi : Nat} {a x : Option Addr} {d : Nat} {S : Sx} (h : SOw w lo hi a x d S) (q : Addr) (u : Value) (hq : q.block < lo ∨ hi ≤ q.block) : SOw (w.setCell q u) lo hi a x d S :=
  h.same (by simp [World.setCell]) (fun p h1 h2 => Below.heap_setCell _ _ _ _ (by omega))
theorem SOw.at {w : World} {lo hi : Nat} {a x : Option Addr} {d : Nat} {S : Sx} (h : SOw w lo hi a x d S) : SAt w a x S := ⟨h.lf, h.rn⟩
theorem SOw.mt (w : World) (S : Sx) (hl : S.l.length = 0) (hn : S.n = 0) (lo hi : Nat) (h : lo ≤ hi ∧ hi ≤ w.heap.size) (a x : Option Addr) (d : Nat) : SOw w lo hi a x d S :=
  ⟨.inl hl, .inl hn, .inl hl, .inl hn, h⟩
theorem SOw.wide {w : World} {lo hi lo' hi' : Nat} {a x : Option Addr} {d : Nat} {S : Sx} (h : SOw w lo hi a x d S) (h1 : lo' ≤ lo) (h2 : hi ≤ hi') (h3 : hi' ≤ w.heap.size) : SOw w lo' hi' a x d S :=
  ⟨h.lf, h.rn, h.lv.imp id (fun ⟨b, P, Q, G, e, hw, hI⟩ => ⟨b, P, Q, G, e, ⟨Nat.le_trans h1 hw.b1, Nat.lt_of_lt_of_le hw.b2 h2, fun i hi h0 => by obtain ⟨e1, e2, e3, e4⟩ := hw.g1 i hi h0; exact ⟨e1, e2, by omega, by omega⟩, hw.sep⟩, fun k0 => by
    have I := hI k0
    exact ⟨Btw.refl _ _ _, I.run, I.wr, I.pth, I.todo, I.done, I.cel⟩⟩), h.ro.imp id (fun ⟨g, ys, e, hg, ho⟩ => ⟨g, ys, e, Nat.lt_of_lt_of_le hg h2, own_weak5 ho h1⟩), by have := h.hl; omega, h3⟩
end Go.Proofs.YtbocofbigjbhgaaGreat

