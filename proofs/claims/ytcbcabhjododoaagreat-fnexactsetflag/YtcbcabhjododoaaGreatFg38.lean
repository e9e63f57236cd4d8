import Derived.Test.YtcbcabhjododoaaGreatFg37
import Derived.Test.YtcbcabhjododoaaGreatFg13
set_option linter.unusedVariables false
set_option linter.unusedSimpArgs false
set_option maxRecDepth 100000
set_option maxHeartbeats 40000000
namespace Go.Proofs.YtcbcabhjododoaaGreat
open Go.ChangeShapes Go.WideShapes Go.ChangeAt Go.RowKit Go.Maps
theorem LB.form {w : World} {lo : Nat} {v : Value} {l : List Lf} (h : LB w lo v l) : ∃ a c, v = .slice a l.length c := by
 obtain ⟨P, Q, h1, _⟩ := h
 rcases h1.row.2 with ⟨e, e0⟩ | ⟨g, cap, cur, e, _⟩
 ·exact ⟨none, 0, by rw [e, e0]⟩
 ·exact ⟨_, cap, e⟩
theorem LB.set {w : World} {lo : Nat} {v : Value} {l : List Lf} (h : LB w lo v l) (q : Addr) (u : Value) (hq : q.block < lo) : LB (w.setCell q u) lo v l :=
 h.move (by simp [World.setCell]) (fun b h1 h2 => Below.heap_setCell _ _ _ _ (by omega))
theorem FR.setLow {w : World} {B : Nat} {v : Value} {l : List Rn} (h : FR w B v l) (q : Addr) (u : Value) (hq : q.block < B) : FR (w.setCell q u) B v l :=
 h.setFar q u (fun e => by have := (World.ownsRow.lt h _ e).1; omega)
theorem SOw.of {w : World} {lo : Nat} {a x : Option Addr} {c d : Nat} {S : Sx} {ul : List Rn} (h : LB w lo (.slice a S.l.length c) S.l) (hf : FR w lo (.slice x S.n d) ul) (hn : S.n = ul.length) (hR : S.R = fun i => (gR ul i).1) (hF : S.F = fun i => (gR ul i).2.1) (hT : S.T = fun i => (gR ul i).2.2) (hlo : lo ≤ w.heap.size) : SOw w lo w.heap.size a x d S := by
 obtain ⟨P, Q, h1, h2⟩ := h
 have hrn : RSeg w x S.n S.R S.F S.T := by
  obtain ⟨a', c', e, s, _, _⟩ := hf.fs
  injection e with e1 e2 e3
  subst e1
  rw [hn, hR, hF, hT]; exact s.rseg
 have hro : S.n = 0 ∨ ∃ g ys, x = some ⟨g, 0, none⟩ ∧ g < w.heap.size ∧ w.ownsRow lo 94 3 (.slice (some ⟨g, 0, none⟩) S.n d) S.n ys := by
  have hf' : w.ownsRow lo 94 3 (.slice x S.n d) S.n (fCells ul) := by have := hf; unfold FR at this; rw [hn]; rw [hn] at this; exact this
  rcases hf'.2 with ⟨e, e0⟩ | ⟨g, cap, cur, e, r⟩
  ·exact .inl e0
  ·injection e with e1 e2 e3
   subst e1
   exact .inr ⟨g, _, rfl, (World.ownsRow.lt hf' g rfl).2, hf'⟩
 rcases h1.row.2 with ⟨e, e0⟩ | ⟨g, cap, cur, e, r⟩
 ·exact ⟨.inl e0, hrn, .inl e0, hro, hlo, Nat.le_refl _⟩
 ·injection e with e1 e2 e3
  subst e1
  refine ⟨h1.lseg rfl, hrn, .inr ⟨g, fun i => some ⟨P i, 0, none⟩, Q, P, rfl, ⟨(h1.lt g rfl).1, (h1.lt g rfl).2, fun i hi _ => ?_, fun i j hi hj _ _ hne => h2 i j hi hj hne⟩, fun k0 => ⟨Btw.refl _ _ _, fun _ _ _ => rfl, ⟨_, own_wrF h1.row⟩, fun i hi => (h1.cell rfl hi).1, fun i _ hi _ => (h1.pt i hi).2.2.2.1.pmk, fun i hi => by omega, fun i hi => by omega⟩⟩, hro, hlo, Nat.le_refl _⟩
  obtain ⟨q1, q2, q3, _⟩ := h1.pt i hi
  exact ⟨rfl, fun e => q3 (by rw [e]; rfl), q1, q2⟩
theorem SOw.emp (w : World) (a x : Option Addr) (d lo : Nat) (hlo : lo ≤ w.heap.size) : SOw w lo w.heap.size a x d Sx.mt := ⟨.inl rfl, .inl rfl, .inl rfl, .inl rfl, hlo, Nat.le_refl _⟩
theorem stateC {z0 : Nat × Nat} {bd : Nat} {J : List Lf} {ul : List Rn} {R F T : Nat → Int} {m : Nat} (w : World) (h : LvJ w z0 bd J ul) (hlv : LvOk R F T m J J.length) (hbd : LvB J) :
  Calls Tryz.prog 79 #[.agg #[.map (some z0.1), .map (some z0.2), .map (some bd)]] w fun e w' => (∃ a c x d, e = .returned (.agg #[.slice a J.length c, .slice x ul.length d]) ∧ LB w' (w.heap.size + 2) (.slice a J.length c) J ∧ FR w' (w.heap.size + 2) (.slice x ul.length d) ul ∧ w.heap.size + 2 ≤ w'.heap.size) ∧ Below w.heap.size w w' := by
 obtain ⟨W, hW⟩ : ∃ W, (w.alloc (.cells #[.map (some z0.1), .map (some z0.2), .map (some bd)] 68)).alloc (.cells #[.slice none 0 0, .slice none 0 0] 36) = W := ⟨_, rfl⟩
 have b0 : Below w.heap.size w W := by rw [← hW]; exact below2 _ _ _
 have X0 : Bx3 W w.heap.size (.map (some z0.1)) (.map (some z0.2)) (.map (some bd)) := by rw [← hW]; exact (Bx3.made _ _ _ _ _).below ((Below.refl _ _).alloc (Nat.le_refl _) _) (Bx3.made _ _ _ _ _).lt
 have R0 : Bx2 W (w.heap.size + 1) (.slice none 0 0) (.slice none 0 0) := by rw [← hW]; simpa using Bx2.made (w.alloc (.cells #[.map (some z0.1), .map (some z0.2), .map (some bd)] 68)) (.slice none 0 0) (.slice none 0 0) 36
 have zW : W.heap.size = w.heap.size + 2 := by rw [← hW]; simp
 obtain ⟨N, B, c, n, D, G, L, h1, h2, h3, h4, h5, h6⟩ := h.below b0
 have hTJ := h1.tj hbd.dis
 have HAL : Hid (∀ w1, Below W.heap.size W w1 → Calls Tryz.prog 97 #[.agg #[.map (some z0.1), .map (some z0.2)], .slice none 0 0, .slice none 0 0] w1 fun e w' => (∃ a c, e = .returned (.slice a J.length c) ∧ LB w' W.heap.size (.slice a J.length c) J) ∧ Below w1.heap.size w1 w') := hid (fun w1 b1 => by
  have := appendLeavesN J W B c N (by simpa using h1.tre) (hTJ.nki (by rw [h1.root]; simp)) h2 hlv hbd 8 [] rfl (by omega) (.slice none 0 0) [] (.slice none 0 0) w1 b1 (LB.nil w1 _) (.inl ⟨rfl, rfl⟩) (fun g hg => by cases hg) (by rw [wL_all hlv]; have := hbd.len; simp; omega)
  rw [show wayOf [] 3 = ([] : List Ky) from rfl, h1.root] at this
  refine this.mono ?_
  rintro e w' ⟨v, rfl, lb, g⟩
  rw [wL_all hlv, List.nil_append] at lb
  obtain ⟨a, c, rfl⟩ := lb.form
  exact ⟨⟨a, c, rfl, lb⟩, g.below (Nat.le_refl _) (fun k hk => by cases hk)⟩)
 have HCX : Hid (∀ w1, Below W.heap.size W w1 → Calls Tryz.prog 98 #[.map (some bd)] w1 fun e w' => (∃ x d, e = .returned (.agg #[.slice x ul.length d]) ∧ FR w' W.heap.size (.slice x ul.length d) ul) ∧ Below w1.heap.size w1 w') := hid (fun w1 b1 => by
  have := contextM2 (h3.below b1) h5 h6
  rw [h4] at this
  refine this.mono ?_
  rintro e w' ⟨v, rfl, hf, b⟩
  obtain ⟨a, c, rfl, _⟩ := hf.fs
  exact ⟨⟨a, c, rfl, hf.weak b1.size⟩, b⟩)
 have HX := hid X0
 have HR := hid R0
 have HB0 := hid b0
 have HZW := hid zW
 have HSE : Hid (∀ w', Below W.heap.size W w' → (w'.cell? ⟨w.heap.size, 0, none⟩ = some (.map (some z0.1)) ∧ w'.cell? ⟨w.heap.size, 1, none⟩ = some (.map (some z0.2)) ∧ w'.cell? ⟨w.heap.size, 2, none⟩ = some (.map (some bd)))) := hid (fun w' b => by
  have A1 := HX.out.below b HX.out.lt
  exact ⟨A1.c0, A1.c1, A1.c2⟩)
 clear b0 X0 R0 zW h h1 h2 h3 h4 h5 h6 hTJ hlv hbd
 go_enter Tryz.func79, Tryz.ntmps79
 go_wp2_with fail
 try rw [hW]
 clear hW
 refine wp_region_held_drew (S := fun w' => w'.cell? ⟨w.heap.size, 0, none⟩ = some (.map (some z0.1)) ∧ w'.cell? ⟨w.heap.size, 1, none⟩ = some (.map (some z0.2)) ∧ w'.cell? ⟨w.heap.size, 2, none⟩ = some (.map (some bd))) (by kernel_rfl) (HSE.out _ (Below.refl _ _).drew) (fun hHeld => ?_)
 refine tk 0 3 ?_ (by kernel_rfl) (fun _ _ _ h => h) ?_ hHeld (tk 1 4 ?_ (by kernel_rfl) (fun _ _ _ h => h) ?_ hHeld (tk 3 6 ?_ (by kernel_rfl) (fun _ _ _ h => h) ?_ hHeld (tk 4 7 ?_ (by kernel_rfl) (fun _ _ _ h => h) ?_ hHeld ?_)))
 iterate 4 (rotate_left; focus (intro o ho; simp only [gZa, gZb, gZc, gZd] at ho; subst ho; refine Or.inl ⟨by rfl, ?_⟩; intro w hSw; (try dsimp only at hSw); (try simp only [Act.put, sZa, sZb, sZc]); go_simp; try with_reducible rfl))
 try simp only [Act.put, sZa, sZb, sZc]
 refine call1 (i := 2) (d := some 5) (by kernel_rfl) (by kernel_rfl) ?_
 intro o ho hod K hK; simp only [gZa, gZb, gZc, gZd] at ho; subst ho
 go_simp
 refine (HAL.out _ (Below.refl _ _).drew).mono ?_
 rintro e w1 ⟨⟨a, c, rfl, lb⟩, b1⟩
 have b1' : Below W.heap.size W w1 := ⟨b1.os, b1.tape, b1.output, b1.size, b1.block⟩
 have HLB := hid lb
 clear lb
 refine hK.out _ _ (HSE.out _ b1') (fun hHeld => ?_)
 clear hK K
 try simp only [Act.put, sZa, sZb, sZc]
 refine call1 (i := 5) (d := some 8) (by kernel_rfl) (by kernel_rfl) ?_
 intro o ho hod K hK; simp only [gZa, gZb, gZc, gZd] at ho; subst ho
 go_simp
 refine (HCX.out _ b1').mono ?_
 rintro e w2 ⟨⟨x, d, rfl, hf⟩, b2⟩
 have b2' := keepS b1' b2
 have HFR := hid hf
 have HL2 := hid (HLB.out.below b2)
 have R2 := HR.out.below b2' HR.out.lt
 clear hf
 refine hK.out _ _ (HSE.out _ b2') (fun hHeld => ?_)
 clear hK K
 try simp only [Act.put, sZa, sZb, sZc]
 refine tk 6 9 ?_ (by kernel_rfl) (fun _ _ _ h => h) ?_ hHeld ?_
 rotate_left
 ·(intro o ho; simp only [gZa, gZb, gZc, gZd] at ho; subst ho; refine Or.inl ⟨by rfl, ?_⟩; intro w hSw; (try dsimp only at hSw); go_simp; try with_reducible rfl)
 try simp only [Act.put, sZa, sZb, sZc]
 have t0 := R2.c0
 have t1 := R2.c1
 have tf := R2.f
 have HR3 := hid (R2.set (.slice a J.length c) (.slice x ul.length d))
 have HX3 := hid (((HX.out.below b2' HX.out.lt).far (grownSet w2 ⟨w.heap.size + 1, 0, none⟩ (.slice a J.length c)) (by show w.heap.size ≠ w.heap.size + 1; omega)).far (grownSet _ ⟨w.heap.size + 1, 1, none⟩ (.slice x ul.length d)) (by show w.heap.size ≠ w.heap.size + 1; omega))
 have HB9 := hid (keepS HB0.out b2')
 have HZ2 : Hid (w.heap.size + 2 ≤ w2.heap.size) := hid (by have h1 := HZW.out; have h2 := b2'.size; omega)
 have HL9 : Hid (LB ((w2.setCell ⟨w.heap.size + 1, 0, none⟩ (.slice a J.length c)).setCell ⟨w.heap.size + 1, 1, none⟩ (.slice x ul.length d)) (w.heap.size + 2) (.slice a J.length c) J) := hid (by
  have h1 := HL2.out
  rw [HZW.out] at h1
  exact (h1.set _ _ (by show w.heap.size + 1 < w.heap.size + 2; omega)).set _ _ (by show w.heap.size + 1 < w.heap.size + 2; omega))
 have HF9 : Hid (FR ((w2.setCell ⟨w.heap.size + 1, 0, none⟩ (.slice a J.length c)).setCell ⟨w.heap.size + 1, 1, none⟩ (.slice x ul.length d)) (w.heap.size + 2) (.slice x ul.length d) ul) := hid (by
  have h1 := HFR.out
  rw [HZW.out] at h1
  exact (h1.setLow _ _ (by show w.heap.size + 1 < w.heap.size + 2; omega)).setLow _ _ (by show w.heap.size + 1 < w.heap.size + 2; omega))
 refine call1 (i := 7) (d := none) (by kernel_rfl) (by kernel_rfl) ?_
 intro o ho hod K hK; simp only [gZa, gZb, gZc, gZd] at ho; subst ho
 go_simp
 refine hK.out _ _ ⟨HX3.out.c0, HX3.out.c1, HX3.out.c2⟩ (fun hHeld => ?_)
 clear hK K
 try simp only [Act.put, sZa, sZb, sZc]
 refine wpAnyH_done (by kernel_rfl) ?_ _
 clear hHeld b1 b1' b2 b2' R2 t0 t1 tf HSE HAL HCX
 go_wp2_with fail
 have s0 := HR3.out.c0
 have s1 := HR3.out.c1
 refine bodyPost_ret (v := .agg #[.slice a J.length c, .slice x ul.length d]) (by simp [results, Tryz.results79, go_sem, s0, s1]) rfl ⟨⟨a, c, x, d, rfl, HL9.out, HF9.out, by simp [World.setCell]; have := HZ2.out; omega⟩, ?_⟩
 exact (HB9.out.setCell (by simp) _).setCell (by simp) _
theorem openB (a x : Option Addr) (c d : Nat) (S : Sx) (w : World) (hm : S.Sm) (hi : ∀ i, LfI (gL S.l i)) (h : SAt w a x S) :
  Calls Tryz.prog 54 #[.agg #[.slice a S.l.length c, .slice x S.n d]] w fun e w' => (∃ u0 u1 u2, e = .returned (.tuple #[.agg #[.map u0, .map u1, .map u2], .bool (stB S)]) ∧ (stB S = true → ∃ x0 bm, u0 = some (Prod.fst x0) ∧ u1 = some (Prod.snd x0) ∧ u2 = some bm ∧ OpA w' x0 bm S)) ∧ Below w.heap.size w w' := by
 cases hb : stB S with
 | true =>
  refine (openStateK a c S.l x S.n d S.R S.F S.T w hm.l1 hm.p1 hi hm.n1 h.lf h.rn (stB_t hb)).mono ?_
  rintro e w' ⟨⟨x0, bm, D, G, N, B, rfl, h1, _, _, _, h2, h3, h4⟩, b⟩
  exact ⟨⟨_, _, _, rfl, fun _ => ⟨x0, bm, rfl, rfl, rfl, S.n, D, G, N, B, (stB_t hb).w.1.2, h1, h2, h3, h4⟩⟩, b⟩
 | false =>
  refine (openStateNo a c S.l x S.n d S.R S.F S.T w hm.l1 hm.p1 hi hm.n1 h.lf h.rn (stB_f hb)).mono ?_
  rintro e w' ⟨rfl, b⟩
  exact ⟨⟨_, _, _, rfl, fun h => by cases h⟩, b⟩
end Go.Proofs.YtcbcabhjododoaaGreat
namespace Go.Proofs.YtcbcabhjododoaaGreat
open Go.ChangeShapes Go.WideShapes Go.ChangeAt Go.RowKit Go.Deep
theorem SOw.same {w w' : World} {lo hi : Nat} {a x : Option Addr} {d : Nat} {S : Sx} (h : SOw w lo hi a x d S) (hs : w.heap.size ≤ w'.heap.size) (hq : ∀ q, lo ≤ q → q < hi → w'.heap[q]? = w.heap[q]?) : SOw w' lo hi a x d S := by
 refine ⟨?_, ?_, h.lv.imp id (fun ⟨b, P, Q, G, e, hw, hI⟩ => ⟨b, P, Q, G, e, hw, fun k0 => (hI k0).zero hw hq⟩), ?_, h.hl.1, Nat.le_trans h.hl.2 hs⟩
 ·rcases h.lv with h0 | ⟨b, P, Q, G, e, hw, hI⟩
  ·exact .inl h0
  ·have I := hI 0
   rcases h.lf with h0 | ⟨b', off, e', hb, hc⟩
   ·exact .inl h0
   ·rw [e] at e'
    have e1 : b = b' := congrArg Addr.block (Option.some.inj e')
    have e2 : 0 = off := congrArg Addr.off (Option.some.inj e')
    have eb : w'.heap[b]? = w.heap[b]? := hq b hw.b1 hw.b2
    have q1 : ∀ j, w'.cell? ⟨b, j, none⟩ = w.cell? ⟨b, j, none⟩ := fun j => World.cell?_of_block (a := ⟨b, j, none⟩) eb
    rw [← e1, ← e2] at hc
    refine .inr ⟨b, 0, e, by rw [e1]; omega, fun i hi' => ?_⟩
    obtain ⟨pa, pc, c0, hss, c1, c2, c3, c4⟩ := hc i hi'
    refine ⟨pa, pc, by rw [q1]; exact c0, ?_, by rw [q1]; exact c1, by rw [q1]; exact c2, by rw [q1]; exact c3, by rw [q1]; exact c4⟩
    rcases hss with h0 | ⟨g, o, e3, hg, hcc⟩
    ·exact .inl h0
    ·by_cases hz : (gL S.l i).p.length = 0
     ·exact .inl hz
     ·have hwi := hw.g1 i hi' (by omega)
      have c0' := I.pth i hi'
      rw [Nat.zero_add] at c0
      rw [c0] at c0'
      have e4 : pa = P i := by injection (Option.some.inj c0')
      rw [hwi.1, e3] at e4
      have e5 : g = G i := congrArg Addr.block (Option.some.inj e4)
      have eg : w'.heap[g]? = w.heap[g]? := by rw [e5]; exact hq _ hwi.2.2.1 hwi.2.2.2
      exact .inr ⟨g, o, e3, by omega, fun t ht => (World.cell?_of_block (a := ⟨g, _, none⟩) eg).trans (hcc t ht)⟩
 ·rcases h.ro with h0 | ⟨g, ys, e, hg, ho⟩
  ·exact .inl h0
  ·have eg := hq g (ho.lt g rfl).1 hg
   exact h.rn.same hs (fun y hy => by rw [e] at hy; have := Option.some.inj hy; rw [← this]; exact eg)
 ·rcases h.ro with h0 | ⟨g, ys, e, hg, ho⟩
  ·exact .inl h0
  ·exact .inr ⟨g, ys, e, hg, own_at5 ho fun q hq' => by
    have e1 : g = q := by simpa [Value.ownBlock] using hq'
    rw [← e1]; exact hq g (ho.lt g rfl).1 hg⟩
theorem SOw.below {w w' : World} {lo hi : Nat} {a x : Option Addr} {d : Nat} {S : Sx} (h : SOw w lo hi a x d S) (hb : Below w.heap.size w w') : SOw w' lo hi a x d S :=
 h.same hb.size (fun q _ h2 => hb.block q (Nat.lt_of_lt_of_le h2 h.hl.2))
theorem SOw.set {w : World} {lo hi : Nat} {a x : Option Addr} {d : Nat} {S : Sx} (h : SOw w lo hi a x d S) (q : Addr) (u : Value) (hq : q.block < lo ∨ hi ≤ q.block) : SOw (w.setCell q u) lo hi a x d S :=
 h.same (by simp [World.setCell]) (fun p h1 h2 => Below.heap_setCell _ _ _ _ (by omega))
theorem SOw.at {w : World} {lo hi : Nat} {a x : Option Addr} {d : Nat} {S : Sx} (h : SOw w lo hi a x d S) : SAt w a x S := ⟨h.lf, h.rn⟩
theorem SOw.mt (w : World) (S : Sx) (hl : S.l.length = 0) (hn : S.n = 0) (lo hi : Nat) (h : lo ≤ hi ∧ hi ≤ w.heap.size) (a x : Option Addr) (d : Nat) : SOw w lo hi a x d S :=
 ⟨.inl hl, .inl hn, .inl hl, .inl hn, h⟩
theorem SOw.wide {w : World} {lo hi lo' hi' : Nat} {a x : Option Addr} {d : Nat} {S : Sx} (h : SOw w lo hi a x d S) (h1 : lo' ≤ lo) (h2 : hi ≤ hi') (h3 : hi' ≤ w.heap.size) : SOw w lo' hi' a x d S :=
 ⟨h.lf, h.rn, h.lv.imp id (fun ⟨b, P, Q, G, e, hw, hI⟩ => ⟨b, P, Q, G, e, ⟨Nat.le_trans h1 hw.b1, Nat.lt_of_lt_of_le hw.b2 h2, fun i hi h0 => by obtain ⟨e1, e2, e3, e4⟩ := hw.g1 i hi h0; exact ⟨e1, e2, by omega, by omega⟩, hw.sep⟩, fun k0 => by
  have I := hI k0
  exact ⟨Btw.refl _ _ _, I.run, I.wr, I.pth, I.todo, I.done, I.cel⟩⟩), h.ro.imp id (fun ⟨g, ys, e, hg, ho⟩ => ⟨g, ys, e, Nat.lt_of_lt_of_le hg h2, own_weak5 ho h1⟩), by have := h.hl; omega, h3⟩
end Go.Proofs.YtcbcabhjododoaaGreat
