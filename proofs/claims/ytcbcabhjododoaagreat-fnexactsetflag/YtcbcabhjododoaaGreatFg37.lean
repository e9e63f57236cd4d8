import Derived.Test.YtcbcabhjododoaaGreatFg36
import Derived.Test.YtcbcabhjododoaaGreatFg11
import Derived.Test.YtcbcabhjododoaaGreatFg28
import Derived.Test.YtcbcabhjododoaaGreatFg15
set_option linter.unusedVariables false
set_option linter.unusedSimpArgs false
set_option maxRecDepth 100000
set_option maxHeartbeats 40000000
namespace Go.Proofs.YtcbcabhjododoaaGreat
open Go.ChangeShapes Go.WideShapes Go.ChangeAt Go.RowKit Go.Deep
def jnU (S S' : Sx) : List Rn := unL S.R S.F S.T S.n S'.R S'.F S'.T S'.n
noncomputable def jnS (S S' : Sx) : Sx := ⟨jn S.R S.F S.T S.n S.l S'.R S'.F S'.T S'.n S'.l, (jnU S S').length, fun i => (gR (jnU S S') i).1, fun i => (gR (jnU S S') i).2.1, fun i => (gR (jnU S S') i).2.2⟩
noncomputable def stB (S : Sx) : Bool := yes (StOk S.R S.F S.T S.n S.l)
noncomputable def jnF (S S' : Sx) : Bool := decide ((jnS S S').l.length ≤ 1000) && decide ((jnS S S').n ≤ 1000)
def Sx.mt : Sx := ⟨[], 0, fun _ => 0, fun _ => 0, fun _ => 0⟩
theorem stB_t {S : Sx} (h : stB S = true) : StOk S.R S.F S.T S.n S.l := Classical.byContradiction fun hn => by unfold stB at h; rw [yes_f hn] at h; cases h
theorem stB_f {S : Sx} (h : stB S = false) : ¬ StOk S.R S.F S.T S.n S.l := fun hn => by unfold stB at h; rw [yes_t hn] at h; cases h
def SNj (w : World) (lo : Nat) (a x : Option Addr) (S : Sx) : Prop := ∀ w' : World, w.heap.size ≤ w'.heap.size → (∀ q, lo ≤ q → q < w.heap.size → w'.heap[q]? = w.heap[q]?) → SAt w' a x S
def SNc (w : World) (lo : Nat) (a x : Option Addr) (S : Sx) : Prop := ∀ w' : World, w.heap.size ≤ w'.heap.size → (∀ q, lo ≤ q → q < w.heap.size → w'.heap[q]? = w.heap[q]?) → LCap w' a S.l ∧ RSeg w' x S.n S.R S.F S.T
theorem SNc.nj {w : World} {lo : Nat} {a x : Option Addr} {S : Sx} (h : SNc w lo a x S) : SNj w lo a x S := fun w' h1 h2 => ⟨(h w' h1 h2).1.seg, (h w' h1 h2).2⟩
theorem SNc.move {w w1 : World} {lo lo' : Nat} {a x : Option Addr} {S : Sx} (h : SNc w lo a x S) (hl : lo' ≤ lo) (hs : w.heap.size ≤ w1.heap.size) (hq : ∀ q, lo ≤ q → q < w.heap.size → w1.heap[q]? = w.heap[q]?) : SNc w1 lo' a x S :=
 fun w' h1 h2 => h w' (Nat.le_trans hs h1) (fun q h3 h4 => (h2 q (Nat.le_trans hl h3) (Nat.lt_of_lt_of_le h4 hs)).trans (hq q h3 h4))
theorem SNc.below {w w1 : World} {lo : Nat} {a x : Option Addr} {S : Sx} (h : SNc w lo a x S) (hb : Below w.heap.size w w1) : SNc w1 lo a x S := h.move (Nat.le_refl _) hb.size (fun q _ h2 => hb.block q h2)
theorem SNc.mt (w : World) (lo : Nat) (a x : Option Addr) : SNc w lo a x Sx.mt := fun w' _ _ => ⟨.inl rfl, .inl rfl⟩
theorem LC.lcap {w : World} {lo g n c : Nat} {l : List Lf} {P Q : Nat → Nat} (h : LC w lo (.slice (some ⟨g, 0, none⟩) n c) l P Q) (hn : n = l.length) : LCap w (some ⟨g, 0, none⟩) l := by
 refine .inr ⟨g, 0, rfl, (h.lt g rfl).2, fun i hi => ?_⟩
 obtain ⟨c0, c1, c2, c3, c4⟩ := h.cell hn hi
 refine ⟨some ⟨P i, 0, none⟩, Q i, ⟨?_, (h.pt i hi).2.2.2.2⟩, h.seg hi, ?_, ?_, ?_, ?_⟩
 ·rw [Nat.zero_add]; exact c0
 ·rw [Nat.zero_add]; exact c1
 ·rw [Nat.zero_add]; exact c2
 ·rw [Nat.zero_add]; exact c3
 ·rw [Nat.zero_add]; exact c4
theorem LC.lseg {w : World} {lo g n c : Nat} {l : List Lf} {P Q : Nat → Nat} (h : LC w lo (.slice (some ⟨g, 0, none⟩) n c) l P Q) (hn : n = l.length) : LSeg w (some ⟨g, 0, none⟩) l := by
 refine .inr ⟨g, 0, rfl, (h.lt g rfl).2, fun i hi => ?_⟩
 obtain ⟨c0, c1, c2, c3, c4⟩ := h.cell hn hi
 refine ⟨some ⟨P i, 0, none⟩, Q i, ?_, h.seg hi, ?_, ?_, ?_, ?_⟩
 ·rw [Nat.zero_add]; exact c0
 ·rw [Nat.zero_add]; exact c1
 ·rw [Nat.zero_add]; exact c2
 ·rw [Nat.zero_add]; exact c3
 ·rw [Nat.zero_add]; exact c4
theorem ok_pth {S : Sx} (h : StOk S.R S.F S.T S.n S.l) : ∀ i, i < S.l.length → 1 ≤ (gL S.l i).p.length ∧ (gL S.l i).p.length ≤ 8 := fun i hi => by
 have := (h.2.2.1 i hi).1
 exact ⟨this.1.1, this.1.2.1⟩
theorem jn_len {S S' : Sx} (hs : StW S.R S.F S.T S.n S.l) (hs' : StW S'.R S'.F S'.T S'.n S'.l) : (jnS S S').l.length ≤ 2000 ∧ (jnU S S').length ≤ 4000 := by
 have h1 := hs.2.1
 have h2 := hs'.2.1
 have hc := hs.1
 have hc' := hs'.1
 constructor
 ·have e : (jnS S S').l = putL (fun x => ¬ hasX S.R S.F S.T S.n x) S'.l (putL (fun x => x ∈ S'.l ∨ ¬ hasX S'.R S'.F S'.T S'.n x) S.l [] S.l.length) S'.l.length := rfl
  rw [e]
  have q1 := putL_len (P := fun x => ¬ hasX S.R S.F S.T S.n x) (ls := S'.l) (out := putL (fun x => x ∈ S'.l ∨ ¬ hasX S'.R S'.F S'.T S'.n x) S.l [] S.l.length) S'.l.length
  have q2 := putL_len (P := fun x => x ∈ S'.l ∨ ¬ hasX S'.R S'.F S'.T S'.n x) (ls := S.l) (out := []) S.l.length
  simp at q2
  omega
 ·have := unF_len (flat S'.R S'.F S'.T S'.n) (flat S.R S.F S.T S.n)
  rw [flatR_len, flatR_len] at this
  show (unF (flat S.R S.F S.T S.n) (flat S'.R S'.F S'.T S'.n)).length ≤ 4000
  omega
theorem l3FitsC (a x : Option Addr) (m n c d : Nat) (w : World) (hm : m ≤ 1048576) (hn : n ≤ 1048576) : Calls Tryz.prog 51 #[.agg #[.slice a m c, .slice x n d]] w fun e w' => e = .returned (.bool (decide (m ≤ 1000) && decide (n ≤ 1000))) ∧ Below w.heap.size w w' := by
 obtain ⟨W, hW⟩ : ∃ W, w.alloc (.cells #[.slice a m c, .slice x n d] 36) = W := ⟨_, rfl⟩
 have b0 : Below w.heap.size w W := by rw [← hW]; exact (Below.refl _ _).alloc (Nat.le_refl _) _
 have X0 : Bx2 W w.heap.size (.slice a m c) (.slice x n d) := by rw [← hW]; exact Bx2.made _ _ _ _
 have HB := hid b0
 have k0 := X0.c0
 have k1 := X0.c1
 have HE : Hid (∀ b : Bool, (b = true ↔ m ≤ 1000 ∧ n ≤ 1000) → (decide (m ≤ 1000) && decide (n ≤ 1000)) = b) := hid (fun b hb => by
  cases b with
  | true => have := hb.1 rfl; simp [this.1, this.2]
  | false =>
   cases h : (decide (m ≤ 1000) && decide (n ≤ 1000)) with
   | false => rfl
   | true => exact absurd (hb.2 (by simpa using h)) (by simp))
 obtain ⟨B, hB⟩ : ∃ B, (decide (m ≤ 1000) && decide (n ≤ 1000)) = B := ⟨_, rfl⟩
 rw [hB] at HE ⊢
 clear b0 X0 hB
 by_cases h1 : m ≤ 1000
 ·have i1 : (m : Int) ≤ 1000 := by omega
  by_cases h2 : n ≤ 1000
  ·have i2 : (n : Int) ≤ 1000 := by omega
   have HG := hid (HE.out true ⟨fun _ => ⟨h1, h2⟩, fun _ => rfl⟩)
   clear HE
   go_enter Tryz.func51, Tryz.ntmps51
   go_wp2_with fail
   try rw [hW]
   go_ret
   exact ⟨ret_b HG.out.symm, HB.out⟩
  ·have i2 : ¬ (n : Int) ≤ 1000 := by omega
   have HG := hid (HE.out false ⟨fun h => by simp at h, fun h => absurd h.2 h2⟩)
   clear HE
   go_enter Tryz.func51, Tryz.ntmps51
   go_wp2_with fail
   try rw [hW]
   go_ret
   exact ⟨ret_b HG.out.symm, HB.out⟩
 ·have i1 : ¬ (m : Int) ≤ 1000 := by omega
  have HG := hid (HE.out false ⟨fun h => by simp at h, fun h => absurd h.1 h1⟩)
  clear HE
  go_enter Tryz.func51, Tryz.ntmps51
  go_wp2_with fail
  try rw [hW]
  go_ret
  exact ⟨ret_b HG.out.symm, HB.out⟩
end Go.Proofs.YtcbcabhjododoaaGreat
namespace Go.Proofs.YtcbcabhjododoaaGreat
open Go.ChangeShapes Go.WideShapes Go.ChangeAt Go.RowKit Go.Maps
theorem jhas_at (R F T : Nat → Int) (r f t : Int) : ∀ n, hasK R F T r f t n = true → ∃ k, k < n ∧ R k = r ∧ F k ≤ f ∧ t ≤ T k
 | 0, h => by simp [hasK] at h
 | n + 1, h => by
  simp only [hasK, Bool.or_eq_true, decide_eq_true_eq] at h
  rcases h with h | h
  ·obtain ⟨k, hk, r⟩ := jhas_at R F T r f t n h
   exact ⟨k, by omega, r⟩
  ·exact ⟨n, by omega, h⟩
theorem st_bd {R F T : Nat → Int} {n : Nat} {l : List Lf} (h : StW R F T n l) : ∀ x ∈ l, (0 ≤ x.r ∧ x.r < 8) ∧ (0 ≤ x.q ∧ x.q ≤ 1000000000) ∧ x.v.size ≤ 200 ∧ x.p.length ≤ 8 := fun x hx => by
 obtain ⟨i, hi, e⟩ := gL_mem.1 hx
 have hok := h.1.1
 obtain ⟨k, hk, e1, e2, e3⟩ := jhas_at R F T _ _ _ n (h.2.2.1 i hi).2.1
 have := (hok k hk).1
 simp only [runOkB, Bool.and_eq_true, decide_eq_true_eq] at this
 have h4 := (h.2.2.1 i hi).1
 have h5 := h4.1.2.1
 have h6 := h4.2.1
 rw [e] at e1 e2 e3 h5 h6
 exact ⟨by omega, by omega, h6, h5⟩
theorem jn_bd {S S' : Sx} (h : StW S.R S.F S.T S.n S.l) (h' : StW S'.R S'.F S'.T S'.n S'.l) : ∀ x ∈ (jnS S S').l, (0 ≤ x.r ∧ x.r < 8) ∧ (0 ≤ x.q ∧ x.q ≤ 1000000000) ∧ x.v.size ≤ 200 ∧ x.p.length ≤ 8 := fun x hx => by
 rcases jn_from x hx with h1 | h1
 ·exact st_bd h x h1
 ·exact st_bd h' x h1.1
theorem jn_lvB {S S' : Sx} (h : StW S.R S.F S.T S.n S.l) (h' : StW S'.R S'.F S'.T S'.n S'.l) (hl : (jnS S S').l.length ≤ 1000) : LvB (jnS S S').l :=
 ⟨fun i hi => (jn_bd h h' _ (gL_mem.2 ⟨i, hi, rfl⟩)).1, fun i hi => (jn_bd h h' _ (gL_mem.2 ⟨i, hi, rfl⟩)).2.1, fun i hi => (jn_bd h h' _ (gL_mem.2 ⟨i, hi, rfl⟩)).2.2.1, hl, jn_dis h h'⟩
def cat2 (n : Nat) (A B : Nat → Int) (i : Nat) : Int := if i < n then A i else B (i - n)
theorem jn_lv {S S' : Sx} (h : StW S.R S.F S.T S.n S.l) (h' : StW S'.R S'.F S'.T S'.n S'.l) : LvOk (cat2 S.n S.R S'.R) (cat2 S.n S.F S'.F) (cat2 S.n S.T S'.T) (S.n + S'.n) (jnS S S').l (jnS S S').l.length :=
 jn_ok h h' fun z hz => by
  rcases hz with hz | hz
  ·obtain ⟨k, hk, e1, e2, e3⟩ := jhas_at _ _ _ _ _ _ _ hz
   refine hasK_yes (k := k) (by omega) ?_
   unfold cat2
   rw [if_pos hk, if_pos hk, if_pos hk]; exact ⟨e1, e2, e3⟩
  ·obtain ⟨k, hk, e1, e2, e3⟩ := jhas_at _ _ _ _ _ _ _ hz
   refine hasK_yes (k := S.n + k) (by omega) ?_
   unfold cat2
   rw [if_neg (by omega), if_neg (by omega), if_neg (by omega), show S.n + k - S.n = k by omega]; exact ⟨e1, e2, e3⟩
theorem way8 {x : Lf} (h : x.p.length ≤ 8) : (Way x).length ≤ 8 := by unfold Way; rw [wayOf_len]; exact h
def OpA (w : World) (x0 : Nat × Nat) (bm : Nat) (S : Sx) : Prop := ∃ n D G N B, n ≤ 2000 ∧ GrpAt w bm n D G (Lk S.R S.F S.T S.n) ∧ Tre w B N (Mk S.l S.l.length) (9 * S.l.length) ∧ N [] = some x0 ∧ NkI S.l S.l.length N
theorem OpA.below {w w' : World} {x0 : Nat × Nat} {bm : Nat} {S : Sx} (h : OpA w x0 bm S) (hb : Below w.heap.size w w') : OpA w' x0 bm S := by
 obtain ⟨n, D, G, N, B, h0, h1, h2, h3, h4⟩ := h
 exact ⟨n, D, G, N, B, h0, h1.below hb, h2.below hb, h3, h4⟩
def LvJ (w : World) (z0 : Nat × Nat) (bd : Nat) (J : List Lf) (ul : List Rn) : Prop := ∃ N B c n D G L, JF w B J [] N c z0 ∧ c ≤ 1048576 ∧ GrpR w bd n D G L ∧ outF L 8 = ul ∧ (∀ r, L r ≠ [] → 0 ≤ r ∧ r < 8) ∧ (∀ r, (L r).length ≤ 4000)
theorem LvJ.below {w w' : World} {z0 : Nat × Nat} {bd : Nat} {J : List Lf} {ul : List Rn} (h : LvJ w z0 bd J ul) (hb : Below w.heap.size w w') : LvJ w' z0 bd J ul := by
 obtain ⟨N, B, c, n, D, G, L, h1, h2, h3, h4⟩ := h
 exact ⟨N, B, c, n, D, G, L, ⟨h1.tre.below hb, h1.root, h1.there⟩, h2, h3.below hb, h4⟩
theorem LvJ.far {w w' : World} {z0 : Nat × Nat} {bd : Nat} {J : List Lf} {ul : List Rn} (h : LvJ w z0 bd J ul) {t : Nat} {ty : TypeId} (ht : ∃ cs f, w.heap[t]? = some (.cells cs ty f)) (hty : ty ≠ 135) (hg : w.grownBy w' (some t)) : LvJ w' z0 bd J ul := by
 obtain ⟨N, B, c, n, D, G, L, h1, h2, h3, h4⟩ := h
 obtain ⟨cs, f, ht⟩ := ht
 refine ⟨N, B, c, n, D, G, L, ⟨h1.tre.same fun p x hx => ⟨hg.block _ (h1.tre.lt hx).1 (fun e => ?_), hg.block _ (h1.tre.lt hx).2 (fun e => ?_)⟩, h1.root, h1.there⟩, h2, h3.gr hg (fun e => ?_) (fun r g hrg e => ?_), h4⟩
 ·obtain ⟨es, cl, ho⟩ := (h1.tre.kids p x hx).obj
  injection e with e; rw [e, ht] at ho; cases ho
 ·obtain ⟨es, cl, ho⟩ := (h1.tre.marks p x hx).obj
  injection e with e; rw [e, ht] at ho; cases ho
 ·obtain ⟨es, clock, hb, _⟩ := h3.own
  injection e with e; rw [e, ht] at hb; cases hb
 ·rcases (h3.rows r).2 with ⟨h0, _⟩ | ⟨g', cap, cur, hv, _, hb, _⟩
  ·rw [h0] at hrg; cases hrg
  ·rw [hv] at hrg
   have e1 : g' = g := by simpa [Value.ownBlock] using hrg
   injection e with e
   rw [e1, e, ht] at hb
   injection hb with hb
   injection hb with _ hb
   exact hty hb
theorem far3 (w : World) (t : Nat) (u0 u1 u2 : Value) : w.grownBy (((w.setCell ⟨t, 0, none⟩ u0).setCell ⟨t, 1, none⟩ u1).setCell ⟨t, 2, none⟩ u2) (some t) := by
 have g1 : w.grownBy (w.setCell ⟨t, 0, none⟩ u0) (some t) := grownSet w ⟨t, 0, none⟩ u0
 have g2 : (w.setCell ⟨t, 0, none⟩ u0).grownBy ((w.setCell ⟨t, 0, none⟩ u0).setCell ⟨t, 1, none⟩ u1) (some t) := grownSet _ ⟨t, 1, none⟩ u1
 have g3 : ((w.setCell ⟨t, 0, none⟩ u0).setCell ⟨t, 1, none⟩ u1).grownBy (((w.setCell ⟨t, 0, none⟩ u0).setCell ⟨t, 1, none⟩ u1).setCell ⟨t, 2, none⟩ u2) (some t) := grownSet _ ⟨t, 2, none⟩ u2
 exact (g1.trans g2).trans g3
theorem Bx3.far {w w' : World} {b t : Nat} {v0 v1 v2 : Value} (h : Bx3 w b v0 v1 v2) (hg : w.grownBy w' (some t)) (hne : b ≠ t) : Bx3 w' b v0 v1 v2 := h.gr hg (fun k e => by injection e with e; omega)
theorem nk_deep {l : List Lf} {N : List Ky → Option (Nat × Nat)} (h : NkI l l.length N) (h8 : ∀ x ∈ l, x.p.length ≤ 8) : ∀ p, N p ≠ none → p.length ≤ 8 := fun p hp => by
 have h1 : (N p).isSome = true := by
  cases hv : N p with
  | none => exact absurd hv hp
  | some v => rfl
 rcases (h p).1 h1 with e | ⟨j, hj, hpre⟩
 ·rw [e]; simp
 ·exact Nat.le_trans hpre.length_le (way8 (h8 _ (gL_mem.2 ⟨j, hj, rfl⟩)))
theorem nk_ah {l : List Lf} {N : List Ky → Option (Nat × Nat)} (h : NkI l l.length N) {z : List Ky} {x : Lf} (hx : x ∈ l) (hp : z <+: Way x) : N z ≠ none := fun hn => by
 obtain ⟨j, hj, e⟩ := gL_mem.1 hx
 have := (h z).2 (.inr ⟨j, hj, by rw [e]; exact hp⟩)
 rw [hn] at this; cases this
theorem joinOpen {w0 : World} {x0 y0 : Nat × Nat} {bm bm' : Nat} {S S' : Sx} (h : OpA w0 x0 bm S) (h' : OpA w0 y0 bm' S') (hs : StW S.R S.F S.T S.n S.l) (hs' : StW S'.R S'.F S'.T S'.n S'.l) (w : World) (hb : Below w0.heap.size w0 w) :
  Calls Tryz.prog 93 #[.agg #[.map (some x0.1), .map (some x0.2), .map (some bm)], .agg #[.map (some y0.1), .map (some y0.2), .map (some bm')]] w fun e w' => (∃ z0 N, e = .returned (.agg #[.map (some z0.1), .map (some z0.2)]) ∧ JF w' w.heap.size (jnS S S').l [] N (10 * (9 * S.l.length + 9 * S'.l.length)) z0) ∧ Below w.heap.size w w' := by
 obtain ⟨nA, D, G, N, B, zA, g1, t1, r1, n1⟩ := h
 obtain ⟨nB, D', G', N', B', zB, g2, t2, r2, n2⟩ := h'
 have ho := hs.1
 have ho' := hs'.1
 have H : JH w0 N N' (Mk S.l S.l.length) (Mk S'.l S'.l.length) (9 * S.l.length) (9 * S'.l.length) bm bm' (fun d => hasK S.R S.F S.T d.1 d.2 d.2 S.n) (fun d => hasK S'.R S'.F S'.T d.1 d.2 d.2 S'.n) (jnS S S').l := by
  refine ⟨t1.lower (Nat.zero_le _), t2.lower (Nat.zero_le _), fun w hw r q kl hk => ?_, fun w hw r q kl hk => ?_, fun z => kmF_jn hs hs' z, fun z y ha => ?_⟩
  ·have := hasM (g1.below hw) r q (keyOf_dot_wf hk).1 (Lk_srt S.n ho.1 r).1 (Nat.le_trans (Lk_len S.R S.F S.T S.n r) (by omega))
   rw [in_hasK] at this; exact this
  ·have := hasM (g2.below hw) r q (keyOf_dot_wf hk).1 (Lk_srt S'.n ho'.1 r).1 (Nat.le_trans (Lk_len S'.R S'.F S'.T S'.n r) (by omega))
   rw [in_hasK] at this; exact this
  ·obtain ⟨x, hx, hp⟩ := ha
   rcases jn_from x hx with h1 | h1
   ·exact .inl (nk_ah n1 h1 hp)
   ·exact .inr (nk_ah n2 h1.1 hp)
 have hd : ∀ p, (N p ≠ none ∨ N' p ≠ none) → p.length ≤ 8 := fun p hp => by
  rcases hp with hp | hp
  ·exact nk_deep n1 (fun x hx => (st_bd hs x hx).2.2.2) p hp
  ·exact nk_deep n2 (fun x hx => (st_bd hs' x hx).2.2.2) p hp
 have hl := hs.2.1
 have hl' := hs'.2.1
 have := joinTreesC H hd (by omega) 8 [] rfl w hb
 unfold livV at this
 rw [r1, r2] at this
 exact this.mono fun e w' ⟨⟨z0, N1, e1, e2⟩, b⟩ => ⟨⟨z0, N1, e1, e2⟩, b⟩
theorem joinLiveC {x0 y0 : Nat × Nat} {bm bm' : Nat} {S S' : Sx} (w : World) (h : OpA w x0 bm S) (h' : OpA w y0 bm' S') (hs : StW S.R S.F S.T S.n S.l) (hs' : StW S'.R S'.F S'.T S'.n S'.l) :
  Calls Tryz.prog 77 #[.agg #[.map (some x0.1), .map (some x0.2), .map (some bm)], .agg #[.map (some y0.1), .map (some y0.2), .map (some bm')]] w fun e w' => (∃ z0 bd, e = .returned (.agg #[.map (some z0.1), .map (some z0.2), .map (some bd)]) ∧ LvJ w' z0 bd (jnS S S').l (jnU S S')) ∧ Below w.heap.size w w' := by
 have ho := hs.1
 have ho' := hs'.1
 have hl := hs.2.1
 have hl' := hs'.2.1
 obtain ⟨W, hW⟩ : ∃ W, ((w.alloc (.cells #[.map (some x0.1), .map (some x0.2), .map (some bm)] 68)).alloc (.cells #[.map (some y0.1), .map (some y0.2), .map (some bm')] 68)).alloc (.cells #[.map none, .map none, .map none] 68) = W := ⟨_, rfl⟩
 have b0 : Below w.heap.size w W := by rw [← hW]; exact (below2 _ _ _).alloc (by simp; omega) _
 have A0 : Bx3 W w.heap.size (.map (some x0.1)) (.map (some x0.2)) (.map (some bm)) := by
  rw [← hW]
  exact ((Bx3.made w _ _ _ _).below ((Below.refl _ _).alloc (Nat.le_refl _) _) (Bx3.made w _ _ _ _).lt).below ((Below.refl _ _).alloc (Nat.le_refl _) _) (by simp; omega)
 have B0 : Bx3 W (w.heap.size + 1) (.map (some y0.1)) (.map (some y0.2)) (.map (some bm')) := by
  rw [← hW]
  have := Bx3.made (w.alloc (.cells #[.map (some x0.1), .map (some x0.2), .map (some bm)] 68)) (.map (some y0.1)) (.map (some y0.2)) (.map (some bm')) 68
  exact (by simpa using this : Bx3 _ (w.heap.size + 1) _ _ _).below ((Below.refl _ _).alloc (Nat.le_refl _) _) (by simp)
 have R0 : Bx3 W (w.heap.size + 1 + 1) (.map none) (.map none) (.map none) := by
  rw [← hW]
  simpa using Bx3.made ((w.alloc (.cells #[.map (some x0.1), .map (some x0.2), .map (some bm)] 68)).alloc (.cells #[.map (some y0.1), .map (some y0.2), .map (some bm')] 68)) (.map none) (.map none) (.map none) 68
 have HCJ := hid (fun w1 (b1 : Below W.heap.size W w1) => joinOpen (h.below b0) (h'.below b0) hs hs' w1 b1)
 have HUM : Hid (∀ w1, Below W.heap.size W w1 → Calls Tryz.prog 94 #[.map (some bm), .map (some bm')] w1 fun e w' => (∃ bd n D G L, e = .returned (.map (some bd)) ∧ GrpR w' bd n D G L ∧ outF L 8 = jnU S S' ∧ (∀ r, L r ≠ [] → 0 ≤ r ∧ r < 8) ∧ (∀ r, (L r).length ≤ 4000)) ∧ Below w1.heap.size w1 w') := hid (fun w1 b1 => by
  obtain ⟨nA, D, G, N, B, zA, g1, _⟩ := (h.below b0).below b1
  obtain ⟨nB, D', G', N', B', zB, g2, _⟩ := (h'.below b0).below b1
  refine (unionM2 g1 g2 (fun r => (Lk_srt S.n ho.1 r).1) (fun r => (Lk_srt S'.n ho'.1 r).1) (fun r => Nat.le_trans (Lk_len S.R S.F S.T S.n r) ho.2) (fun r => Nat.le_trans (Lk_len S'.R S'.F S'.T S'.n r) ho'.2) (Nat.le_trans g1.size_le zA) (Nat.le_trans g2.size_le zB)).mono ?_
  rintro e w3 ⟨bd, nd, D, G, L, rfl, hnd, hgr, hui, b3⟩
  refine ⟨⟨bd, nd, D, G, L, rfl, hgr, (union_eq ho.1 ho'.1 hui.s (fun r x => hui.done r rfl x)).symm, fun r hr => ?_, fun r => ?_⟩, b3⟩
  ·obtain ⟨x, hx⟩ := (hui.s r).inh hr
   rcases (hui.done r rfl x).1 hx with h | h
   ·exact Lk_rep S.n ho.1 r (In_ne h)
   ·exact Lk_rep S'.n ho'.1 r (In_ne h)
  ·have h1 := hui.len r
   have h2 := Lk_len S.R S.F S.T S.n r
   have h3 := Lk_len S'.R S'.F S'.T S'.n r
   omega)
 have HA0 := hid A0
 have HBB := hid B0
 have HR0 := hid R0
 have HB0 := hid b0
 have HTG : Hid (∃ cs f, W.heap[w.heap.size + 1 + 1]? = some (.cells cs 68 f)) := hid (by
  rw [← hW]
  have := heap_alloc_new ((w.alloc (.cells #[.map (some x0.1), .map (some x0.2), .map (some bm)] 68)).alloc (.cells #[.map (some y0.1), .map (some y0.2), .map (some bm')] 68)) (.cells #[.map none, .map none, .map none] 68)
  exact ⟨_, _, by simpa using this⟩)
 have HLL := hid (And.intro hl hl')
 have HSE : Hid (∀ w', Below W.heap.size W w' → (w'.cell? ⟨w.heap.size, 0, none⟩ = some (.map (some x0.1)) ∧ w'.cell? ⟨w.heap.size, 1, none⟩ = some (.map (some x0.2)) ∧ w'.cell? ⟨w.heap.size, 2, none⟩ = some (.map (some bm)) ∧ w'.cell? ⟨w.heap.size + 1, 0, none⟩ = some (.map (some y0.1)) ∧ w'.cell? ⟨w.heap.size + 1, 1, none⟩ = some (.map (some y0.2)) ∧ w'.cell? ⟨w.heap.size + 1, 2, none⟩ = some (.map (some bm')))) := hid (fun w' b => by
  have A1 := HA0.out.below b HA0.out.lt
  have B1 := HBB.out.below b HBB.out.lt
  exact ⟨A1.c0, A1.c1, A1.c2, B1.c0, B1.c1, B1.c2⟩)
 clear A0 B0 R0 b0 h h' hs hs' ho ho' hl hl'
 go_enter Tryz.func77, Tryz.ntmps77
 go_wp2_with fail
 try rw [hW]
 clear hW
 refine wp_region_held_drew (S := fun w' => w'.cell? ⟨w.heap.size, 0, none⟩ = some (.map (some x0.1)) ∧ w'.cell? ⟨w.heap.size, 1, none⟩ = some (.map (some x0.2)) ∧ w'.cell? ⟨w.heap.size, 2, none⟩ = some (.map (some bm)) ∧ w'.cell? ⟨w.heap.size + 1, 0, none⟩ = some (.map (some y0.1)) ∧ w'.cell? ⟨w.heap.size + 1, 1, none⟩ = some (.map (some y0.2)) ∧ w'.cell? ⟨w.heap.size + 1, 2, none⟩ = some (.map (some bm'))) (by kernel_rfl) (HSE.out _ (Below.refl _ _).drew) (fun hHeld => ?_)
 refine tk 0 5 ?_ (by kernel_rfl) (fun _ _ _ h => h) ?_ hHeld (tk 1 6 ?_ (by kernel_rfl) (fun _ _ _ h => h) ?_ hHeld (tk 3 8 ?_ (by kernel_rfl) (fun _ _ _ h => h) ?_ hHeld (tk 4 9 ?_ (by kernel_rfl) (fun _ _ _ h => h) ?_ hHeld (tk 5 10 ?_ (by kernel_rfl) (fun _ _ _ h => h) ?_ hHeld ?_))))
 iterate 5 (rotate_left; focus (intro o ho; simp only [gZa, gZb, gZc, gZd] at ho; subst ho; refine Or.inl ⟨by rfl, ?_⟩; intro w hSw; (try dsimp only at hSw); (try simp only [Act.put, sZa, sZb, sZc]); go_simp; try with_reducible rfl))
 try simp only [Act.put, sZa, sZb, sZc]
 refine tk 6 11 ?_ (by kernel_rfl) (fun _ _ _ h => h) ?_ hHeld ?_
 rotate_left
 ·(intro o ho; simp only [gZa, gZb, gZc, gZd] at ho; subst ho; refine Or.inl ⟨by rfl, ?_⟩; intro w hSw; (try dsimp only at hSw); go_simp; try with_reducible rfl)
 try simp only [Act.put, sZa, sZb, sZc]
 refine call1 (i := 2) (d := some 7) (by kernel_rfl) (by kernel_rfl) ?_
 intro o ho hod K hK; simp only [gZa, gZb, gZc, gZd] at ho; subst ho
 go_simp
 refine (HCJ.out _ (Below.refl _ _).drew).mono ?_
 rintro e w1 ⟨⟨z0, N, rfl, jf⟩, b1⟩
 have b1' : Below W.heap.size W w1 := ⟨b1.os, b1.tape, b1.output, b1.size, b1.block⟩
 have HJF := hid jf
 clear jf
 refine hK.out _ _ (HSE.out _ b1') (fun hHeld => ?_)
 clear hK K
 try simp only [Act.put, sZa, sZb, sZc]
 refine call1 (i := 7) (d := some 12) (by kernel_rfl) (by kernel_rfl) ?_
 intro o ho hod K hK; simp only [gZa, gZb, gZc, gZd] at ho; subst ho
 go_simp
 refine (HUM.out _ b1').mono ?_
 rintro e w2 ⟨⟨bd, nd, D, G, L, rfl, hgr, hof, hr8, hlen⟩, b2⟩
 have b2' := keepS b1' b2
 have R2 := HR0.out.below b2' HR0.out.lt
 have HLV : Hid (LvJ w2 z0 bd (jnS S S').l (jnU S S')) := hid ⟨N, _, _, nd, D, G, L, ⟨HJF.out.tre.below b2, HJF.out.root, HJF.out.there⟩, by have := HLL.out; omega, hgr, hof, hr8, hlen⟩
 clear hgr hof hr8 hlen
 refine hK.out _ _ (HSE.out _ b2') (fun hHeld => ?_)
 clear hK K
 try simp only [Act.put, sZa, sZb, sZc]
 refine tk 8 13 ?_ (by kernel_rfl) (fun _ _ _ h => h) ?_ hHeld ?_
 rotate_left
 ·(intro o ho; simp only [gZa, gZb, gZc, gZd] at ho; subst ho; refine Or.inl ⟨by rfl, ?_⟩; intro w hSw; (try dsimp only at hSw); go_simp; try with_reducible rfl)
 try simp only [Act.put, sZa, sZb, sZc]
 have t0 := R2.c0
 have t1 := R2.c1
 have t2 := R2.c2
 have tf := R2.f
 have HR3 := hid (R2.set (.map (some z0.1)) (.map (some z0.2)) (.map (some bd)))
 have HA3 := hid ((HA0.out.below b2' HA0.out.lt).far (far3 w2 (w.heap.size + 1 + 1) (.map (some z0.1)) (.map (some z0.2)) (.map (some bd))) (by omega))
 have HB3 := hid ((HBB.out.below b2' HBB.out.lt).far (far3 w2 (w.heap.size + 1 + 1) (.map (some z0.1)) (.map (some z0.2)) (.map (some bd))) (by omega))
 have HL3 := hid (HLV.out.far (t := w.heap.size + 1 + 1) (by obtain ⟨cs, f, e⟩ := HTG.out; exact ⟨cs, f, (b2'.block _ HR0.out.lt).trans e⟩) (by decide) (far3 w2 (w.heap.size + 1 + 1) (.map (some z0.1)) (.map (some z0.2)) (.map (some bd))))
 have HB9 := hid (keepS HB0.out b2')
 refine call1 (i := 9) (d := none) (by kernel_rfl) (by kernel_rfl) ?_
 intro o ho hod K hK; simp only [gZa, gZb, gZc, gZd] at ho; subst ho
 go_simp
 refine hK.out _ _ ⟨HA3.out.c0, HA3.out.c1, HA3.out.c2, HB3.out.c0, HB3.out.c1, HB3.out.c2⟩ (fun hHeld => ?_)
 clear hK K
 try simp only [Act.put, sZa, sZb, sZc]
 refine wpAnyH_done (by kernel_rfl) ?_ _
 clear hHeld b1 b1' b2 b2' R2 t0 t1 t2 tf HSE HCJ HUM
 go_wp2_with fail
 have s0 := HR3.out.c0
 have s1 := HR3.out.c1
 have s2 := HR3.out.c2
 refine bodyPost_ret (v := .agg #[.map (some z0.1), .map (some z0.2), .map (some bd)]) (by simp [results, Tryz.results77, go_sem, s0, s1, s2]) rfl ⟨⟨z0.1, z0.2, bd, rfl, HL3.out⟩, ?_⟩
 exact ((HB9.out.setCell (by simp; omega) _).setCell (by simp; omega) _).setCell (by simp; omega) _
theorem withinC {z0 : Nat × Nat} {bd : Nat} {J : List Lf} {ul : List Rn} (w : World) (h : LvJ w z0 bd J ul) (hd : Dis J J.length) (h8 : ∀ x ∈ J, x.p.length ≤ 8) (hJ : J.length ≤ 1048576) (hu : ul.length ≤ 1048576) :
  Calls Tryz.prog 78 #[.agg #[.map (some z0.1), .map (some z0.2), .map (some bd)]] w fun e w' => e = .returned (.bool (decide (J.length ≤ 1000) && decide (ul.length ≤ 1000))) ∧ Below w.heap.size w w' := by
 obtain ⟨W, hW⟩ : ∃ W, w.alloc (.cells #[.map (some z0.1), .map (some z0.2), .map (some bd)] 68) = W := ⟨_, rfl⟩
 have b0 : Below w.heap.size w W := by rw [← hW]; exact (Below.refl _ _).alloc (Nat.le_refl _) _
 have X0 : Bx3 W w.heap.size (.map (some z0.1)) (.map (some z0.2)) (.map (some bd)) := by rw [← hW]; exact Bx3.made _ _ _ _ _
 obtain ⟨N, B, c, n, D, G, L, h1, h2, h3, h4, h5, h6⟩ := h.below b0
 have HCN := hid (countC (h1.tj hd) h2 hJ (fun x hx => way8 (h8 x hx)) 8 [] z0 rfl h1.root W (Below.refl _ _))
 rw [cW_all] at HCN
 have HCR := hid (fun w1 (b1 : Below W.heap.size W w1) => countM2 (h3.below b1) h5 h6)
 rw [h4] at HCR
 have HB0 := hid b0
 have HX := hid X0
 have k0 := X0.c0
 have k1 := X0.c1
 obtain ⟨m, hm⟩ : ∃ m, J.length = m := ⟨_, rfl⟩
 obtain ⟨u, hu'⟩ : ∃ u, ul.length = u := ⟨_, rfl⟩
 rw [hm] at HCN hJ ⊢
 rw [hu'] at HCR hu ⊢
 obtain ⟨V, hV⟩ : ∃ V, (decide (m ≤ 1000) && decide (u ≤ 1000)) = V := ⟨_, rfl⟩
 rw [hV]
 have HV := hid hV
 clear b0 X0 h h1 h2 h3 h4 h5 h6 hd h8 hm hu' hV
 by_cases e1 : m ≤ 1000
 ·have i1 : (m : Int) ≤ 1000 := by omega
  by_cases e2 : u ≤ 1000
  ·have i2 : (u : Int) ≤ 1000 := by omega
   have HG : Hid (V = true) := hid (by rw [← HV.out]; simp [e1, e2])
   go_enter Tryz.func78, Tryz.ntmps78
   go_wp2_with fail
   try rw [hW]
   clear hW
   refine HCN.out.mono ?_
   rintro e w1 ⟨rfl, b1⟩
   have k2 := (HX.out.below b1 HX.out.lt).c2
   have HB1 := hid (keepS HB0.out b1)
   have HCA := hid (HCR.out w1 b1)
   clear b1 HCR
   go_wp2_with fail
   refine HCA.out.mono ?_
   rintro e w2 ⟨rfl, b2⟩
   have HB2 := hid (keepS HB1.out b2)
   clear b2
   go_wp2_with fail
   go_ret
   exact ⟨ret_b HG.out.symm, HB2.out⟩
  ·have i2 : ¬ (u : Int) ≤ 1000 := by omega
   have i3 : decide ((u : Int) ≤ 1000) = false := by simpa using i2
   have HG : Hid (V = false) := hid (by rw [← HV.out]; simp [e2])
   go_enter Tryz.func78, Tryz.ntmps78
   go_wp2_with fail
   try rw [hW]
   clear hW
   refine HCN.out.mono ?_
   rintro e w1 ⟨rfl, b1⟩
   have k2 := (HX.out.below b1 HX.out.lt).c2
   have HB1 := hid (keepS HB0.out b1)
   have HCA := hid (HCR.out w1 b1)
   clear b1 HCR
   go_wp2_with fail
   refine HCA.out.mono ?_
   rintro e w2 ⟨rfl, b2⟩
   have HB2 := hid (keepS HB1.out b2)
   clear b2
   go_wp2_with fail
   go_ret
   exact ⟨ret_b HG.out.symm, HB2.out⟩
 ·have i1 : ¬ (m : Int) ≤ 1000 := by omega
  have i3 : decide ((m : Int) ≤ 1000) = false := by simpa using i1
  have HG : Hid (V = false) := hid (by rw [← HV.out]; simp [e1])
  go_enter Tryz.func78, Tryz.ntmps78
  go_wp2_with fail
  try rw [hW]
  clear hW
  refine HCN.out.mono ?_
  rintro e w1 ⟨rfl, b1⟩
  have HB1 := hid (keepS HB0.out b1)
  clear b1 HCR
  go_wp2_with fail
  go_ret
  exact ⟨ret_b HG.out.symm, HB1.out⟩
end Go.Proofs.YtcbcabhjododoaaGreat
