import Derived.Test.YtcbcabhjododoaaGreatFg38
import Derived.Test.YtcbcabhjododoaaGreatFg37
set_option linter.unusedVariables false
set_option linter.unusedSimpArgs false
set_option maxRecDepth 100000
set_option maxHeartbeats 40000000
namespace Go.Proofs.YtcbcabhjododoaaGreat
open Go.ChangeShapes Go.WideShapes Go.ChangeAt Go.RowKit Go.Maps
theorem gL_far {l : List Lf} {i : Nat} (h : ¬ i < l.length) : (gL l i).p = [] := by simp [gL, List.getD, h]
theorem Btw.lowJ {lo hi B : Nat} {w0 w w' : World} (h : Btw lo hi w w') (hb : Below B w0 w) (hB : B ≤ lo) (hs : B ≤ w.heap.size) : Below B w0 w' := ⟨h.os.trans hb.os, h.tape.trans hb.tape, h.output.trans hb.output, Nat.le_trans hb.size h.size, fun k hk => (h.block k (by omega) (.inl (by omega))).trans (hb.block k hk)⟩
theorem SNj.low {w w' : World} {a x : Option Addr} {S : Sx} {lo : Nat} (h : SNj w lo a x S) (hb : Below w.heap.size w w') : SAt w' a x S := h w' hb.size (fun q _ h2 => hb.block q h2)
theorem Bx2.btw {w w' : World} {b lo hi : Nat} {v0 v1 : Value} (h : Bx2 w b v0 v1) (hb : Btw lo hi w w') (hd : b < lo ∨ hi ≤ b) : Bx2 w' b v0 v1 := by
 have e := hb.block b h.lt hd
 exact ⟨(World.cell?_of_block (a := ⟨b, 0, none⟩) e).trans h.c0, (World.cell?_of_block (a := ⟨b, 1, none⟩) e).trans h.c1, fun i => (World.frozen?_of_block (a := ⟨b, i, none⟩) e).trans (h.f i), Nat.lt_of_lt_of_le h.lt hb.size⟩
end Go.Proofs.YtcbcabhjododoaaGreat
namespace Go.Proofs.YtcbcabhjododoaaGreat
open Go.ChangeShapes Go.WideShapes Go.ChangeAt Go.RowKit
theorem gR_flat (l : List Rn) : flat (fun i => (gR l i).1) (fun i => (gR l i).2.1) (fun i => (gR l i).2.2) l.length = l := by
 refine List.ext_getElem (by simp [flat]) (fun i h1 h2 => ?_)
 simp [flat, gR, List.getD, h2]
theorem gR_okTo {l : List Rn} (h : FSrt l) : okTo (fun i => (gR l i).1) (fun i => (gR l i).2.1) (fun i => (gR l i).2.2) l.length := by
 intro i hi
 have e : ∀ j, (hj : j < l.length) → gR l j = l[j] := fun j hj => by simp [gR, List.getD, hj]
 refine ⟨?_, fun h0 => ?_⟩
 ·have := h.2 _ (List.getElem_mem hi)
  rw [← e i hi] at this
  exact runOk_true this
 ·have := List.pairwise_iff_getElem.1 h.1 (i - 1) i (by omega) hi (by omega)
  rw [← e i hi, ← e (i - 1) (by omega)] at this
  unfold apartB
  exact decide_eq_true this
theorem hasK_RI (R F T : Nat → Int) (r x : Int) (n : Nat) : hasK R F T r x x n = true ↔ RI (flat R F T n) r x := by
 rw [flat_in, ← in_hasK]
 unfold inB In
 simp
theorem hasX_RI {R F T : Nat → Int} {n : Nat} {x : Lf} : hasX R F T n x ↔ RI (flat R F T n) x.r x.q := hasK_RI R F T x.r x.q n
def mkS (l : List Lf) (u : List Rn) : Sx := ⟨l, u.length, fun i => (gR u i).1, fun i => (gR u i).2.1, fun i => (gR u i).2.2⟩
theorem jnS_mk (S S' : Sx) : jnS S S' = mkS (jn S.R S.F S.T S.n S.l S'.R S'.F S'.T S'.n S'.l) (jnU S S') := rfl
theorem mkS_has {l : List Lf} {u : List Rn} {x : Lf} : hasX (mkS l u).R (mkS l u).F (mkS l u).T (mkS l u).n x ↔ RI u x.r x.q := by
 rw [hasX_RI]; unfold mkS; simp only; rw [gR_flat]
def dtR (x : Lf) : Rn := (x.r, x.q, x.q)
theorem dtR_in {l : List Lf} {r x : Int} : RI (l.map dtR) r x ↔ ∃ y ∈ l, y.r = r ∧ y.q = x := by
 unfold RI InR dtR
 constructor
 ·rintro ⟨p, hp, h1, h2, h3⟩
  obtain ⟨y, hy, rfl⟩ := List.mem_map.1 hp
  exact ⟨y, hy, h1, by simp only at h2 h3; omega⟩
 ·rintro ⟨y, hy, h1, h2⟩
  exact ⟨_, List.mem_map.2 ⟨y, hy, rfl⟩, h1, by simp only; omega, by simp only; omega⟩
noncomputable def goL (g : Lf → Prop) (l : List Lf) : List Lf := l.filter fun x => yes (g x)
noncomputable def stL (g : Lf → Prop) (l : List Lf) : List Lf := l.filter fun x => !yes (g x)
noncomputable def dlU (g : Lf → Prop) (l P : List Lf) : List Rn := unF [] ((goL g l).map dtR ++ P.map dtR)
noncomputable def dlS (g : Lf → Prop) (l P : List Lf) : Sx := mkS P (dlU g l P)
def nxU (S : Sx) (P : List Lf) : List Rn := unF (flat S.R S.F S.T S.n) (P.map dtR)
noncomputable def nxL (g : Lf → Prop) (l P : List Lf) : List Lf := P.foldl (fun o y => insL y o) (stL g l)
noncomputable def nxS (g : Lf → Prop) (S : Sx) (P : List Lf) : Sx := mkS (nxL g S.l P) (nxU S P)
theorem goL_mem {g : Lf → Prop} {l : List Lf} {x : Lf} : x ∈ goL g l ↔ x ∈ l ∧ g x := by
 unfold goL; rw [List.mem_filter]
 exact and_congr_right fun _ => ⟨fun h => Classical.byContradiction fun hn => (by rw [yes_f hn] at h; cases h), fun h => yes_t h⟩
theorem stL_mem {g : Lf → Prop} {l : List Lf} {x : Lf} : x ∈ stL g l ↔ x ∈ l ∧ ¬ g x := by
 unfold stL; rw [List.mem_filter]
 exact and_congr_right fun _ => ⟨fun h hn => (by rw [yes_t hn] at h; cases h), fun h => (by rw [yes_f h]; rfl)⟩
structure PtO (S : Sx) (P : List Lf) : Prop where
 one : P.length ≤ 1
 ok : ∀ y ∈ P, LfOk1 y
 dot : ∀ y ∈ P, Rok (dtR y)
 new : ∀ y ∈ P, ¬ hasX S.R S.F S.T S.n y
theorem PtO.nil (S : Sx) : PtO S [] := ⟨by simp, fun y h => (by cases h), fun y h => (by cases h), fun y h => (by cases h)⟩
theorem ok_has {S : Sx} (h : StOk S.R S.F S.T S.n S.l) : ∀ z ∈ S.l, hasX S.R S.F S.T S.n z := fun z hz => by
 obtain ⟨j, hj, e⟩ := gL_mem.1 hz
 have := (h.2.2.1 j hj).2.1
 rw [e] at this; exact this
theorem has_rok {R F T : Nat → Int} {n : Nat} (h : okTo R F T n) {x : Lf} (hx : hasX R F T n x) : Rok (dtR x) := by
 obtain ⟨k, hk, e1, e2, e3⟩ := jhas_at R F T _ _ _ n hx
 have := (h k hk).1
 simp only [runOkB, Bool.and_eq_true, decide_eq_true_eq] at this
 unfold Rok dtR; simp only; omega
theorem ok_okTo {S : Sx} (h : StOk S.R S.F S.T S.n S.l) : okTo S.R S.F S.T S.n := (ctxB_iff.1 h.1).1
section
variable {g : Lf → Prop} {S : Sx} {P : List Lf}
theorem dl_rok (h : StOk S.R S.F S.T S.n S.l) (hp : PtO S P) : ∀ p ∈ (goL g S.l).map dtR ++ P.map dtR, Rok p := fun p hq => by
 rcases List.mem_append.1 hq with hq | hq
 ·obtain ⟨x, hx, rfl⟩ := List.mem_map.1 hq
  exact has_rok (ok_okTo h) (ok_has h x (goL_mem.1 hx).1)
 ·obtain ⟨x, hx, rfl⟩ := List.mem_map.1 hq
  exact hp.dot x hx
theorem fs_nil : FSrt [] := ⟨List.Pairwise.nil, fun p h => by cases h⟩
theorem dlU_ok (h : StOk S.R S.F S.T S.n S.l) (hp : PtO S P) : FSrt (dlU g S.l P) ∧ ∀ r x, RI (dlU g S.l P) r x ↔ (∃ y, (y ∈ S.l ∧ g y) ∧ y.r = r ∧ y.q = x) ∨ ∃ y ∈ P, y.r = r ∧ y.q = x := by
 obtain ⟨h1, h2⟩ := unF_ok ((goL g S.l).map dtR ++ P.map dtR) [] fs_nil (dl_rok h hp)
 refine ⟨h1, fun r x => (h2 r x).trans ?_⟩
 rw [RI_append, dtR_in, dtR_in]
 constructor
 ·rintro (e | ⟨y, hy, e⟩ | e)
  ·exact absurd e RI_nil
  ·exact .inl ⟨y, goL_mem.1 hy, e⟩
  ·exact .inr e
 ·rintro (⟨y, hy, e⟩ | e)
  ·exact .inr (.inl ⟨y, goL_mem.2 hy, e⟩)
  ·exact .inr (.inr e)
theorem dlU_len (h : StOk S.R S.F S.T S.n S.l) (hp : PtO S P) : (dlU g S.l P).length ≤ 1001 := by
 have h1 := unF_len ((goL g S.l).map dtR ++ P.map dtR) []
 have h2 : (goL g S.l).length ≤ S.l.length := List.length_filter_le _ _
 have h3 := h.2.1
 have h4 := hp.one
 simp at h1
 show (unF [] ((goL g S.l).map dtR ++ P.map dtR)).length ≤ 1001
 omega
theorem one_lv (hp : PtO S P) {R F T : Nat → Int} {n : Nat} (hh : ∀ y ∈ P, hasX R F T n y) : LvOk R F T n P P.length ∧ Dis P P.length := by
 have h1 := hp.one
 refine ⟨fun i hi => ?_, fun i hi j hj => by omega⟩
 have hm : gL P i ∈ P := gL_mem.2 ⟨i, hi, rfl⟩
 exact ⟨hp.ok _ hm, hh _ hm, fun h0 => by omega⟩
theorem dl_w (h : StOk S.R S.F S.T S.n S.l) (hp : PtO S P) : StW (dlS g S.l P).R (dlS g S.l P).F (dlS g S.l P).T (dlS g S.l P).n (dlS g S.l P).l := by
 have h1 := (dlU_ok (g := g) h hp).1
 have h2 := dlU_len (g := g) h hp
 have h3 := one_lv hp (R := (dlS g S.l P).R) (F := (dlS g S.l P).F) (T := (dlS g S.l P).T) (n := (dlS g S.l P).n) (fun y hy => mkS_has.2 (((dlU_ok h hp).2 _ _).2 (.inr ⟨y, hy, rfl, rfl⟩)))
 exact ⟨⟨gR_okTo h1, by show (dlU g S.l P).length ≤ 2000; omega⟩, by show P.length ≤ 1000; have := hp.one; omega, h3.1, h3.2⟩
theorem stL_sorted (h : StOk S.R S.F S.T S.n S.l) : (stL g S.l).Pairwise (fun a b => cmpL a b < 0) := by
 refine List.Pairwise.filter _ (List.pairwise_iff_getElem.2 fun i j hi hj hij => ?_)
 have := h.2.2.1.lt j hij hj
 have e1 : gL S.l i = S.l[i] := by simp [gL, List.getD, hi]
 have e2 : gL S.l j = S.l[j] := by simp [gL, List.getD, hj]
 rw [e1, e2] at this; exact this
theorem nxL_mem {l : List Lf} {z : Lf} : ∀ {P : List Lf} {o : List Lf}, z ∈ P.foldl (fun o y => insL y o) o ↔ z ∈ o ∨ z ∈ P
 | [], o => by simp
 | y :: P, o => by
  rw [List.foldl_cons, nxL_mem (l := l) (P := P), insL_mem, List.mem_cons]
  constructor
  ·rintro ((e | e) | e)
   ·exact .inr (.inl e)
   ·exact .inl e
   ·exact .inr (.inr e)
  ·rintro (e | e | e)
   ·exact .inl (.inr e)
   ·exact .inl (.inl e)
   ·exact .inr e
theorem nxL_sorted (h : StOk S.R S.F S.T S.n S.l) (hp : PtO S P) : (nxL g S.l P).Pairwise (fun a b => cmpL a b < 0) := by
 unfold nxL
 match P, hp with
 | [], _ => exact stL_sorted h
 | [y], hp =>
  refine insL_sorted (stL_sorted h) (fun z hz e => ?_)
  exact hp.new y (List.mem_singleton.2 rfl) ((hasX_key e).1 (ok_has h z (stL_mem.1 hz).1))
 | _ :: _ :: _, hp => exact absurd hp.one (by simp)
theorem chg_l (h : StOk S.R S.F S.T S.n S.l) (hp : PtO S P) : (jnS S (dlS g S.l P)).l = nxL g S.l P := by
 refine lfs_uniq (jn_sorted h.w (dl_w h hp)) (nxL_sorted h hp) (fun z => ?_)
 show z ∈ jnL S.l P _ _ ↔ _
 rw [jnL_mem]
 unfold nxL
 rw [nxL_mem (l := S.l), stL_mem]
 have hD : hasX (dlS g S.l P).R (dlS g S.l P).F (dlS g S.l P).T (dlS g S.l P).n z ↔ _ := mkS_has.trans ((dlU_ok (g := g) h hp).2 z.r z.q)
 rw [hD]
 constructor
 ·rintro (⟨h1, h2⟩ | ⟨h1, _⟩)
  ·rcases h2 with h2 | h2
   ·exact .inr h2
   ·exact .inl ⟨h1, fun hg => h2 (.inl ⟨z, ⟨h1, hg⟩, rfl, rfl⟩)⟩
  ·exact .inr h1
 ·rintro (⟨h1, h2⟩ | h1)
  ·refine .inl ⟨h1, .inr ?_⟩
   rintro (⟨y, ⟨hy, hg⟩, e⟩ | ⟨y, hy, e⟩)
   ·exact h2 ((dis_mem h.2.2.2 hy h1 e) ▸ hg)
   ·refine hp.new y hy ?_
    have := ok_has h z h1
    unfold hasX at this ⊢
    rw [e.1, e.2]; exact this
  ·exact .inr ⟨h1, hp.new z h1⟩
theorem nxU_ok (h : StOk S.R S.F S.T S.n S.l) (hp : PtO S P) : FSrt (nxU S P) ∧ ∀ r x, RI (nxU S P) r x ↔ RI (flat S.R S.F S.T S.n) r x ∨ ∃ y ∈ P, y.r = r ∧ y.q = x := by
 obtain ⟨h1, h2⟩ := unF_ok (P.map dtR) (flat S.R S.F S.T S.n) (flat_srt S.n (ok_okTo h)) (fun p hq => by
  obtain ⟨x, hx, rfl⟩ := List.mem_map.1 hq
  exact hp.dot x hx)
 refine ⟨h1, fun r x => (h2 r x).trans ?_⟩
 rw [dtR_in]
theorem chg_u (h : StOk S.R S.F S.T S.n S.l) (hp : PtO S P) : jnU S (dlS g S.l P) = nxU S P := by
 have hd := dlU_ok (g := g) h hp
 have e0 : jnU S (dlS g S.l P) = unF (flat S.R S.F S.T S.n) (dlU g S.l P) := by
  unfold jnU unL dlS mkS; simp only; rw [gR_flat]
 rw [e0]
 obtain ⟨h1, h2⟩ := unF_ok (dlU g S.l P) (flat S.R S.F S.T S.n) (flat_srt S.n (ok_okTo h)) hd.1.2
 obtain ⟨h3, h4⟩ := nxU_ok h hp
 refine uniq h1 h3 (fun r x => ?_)
 rw [h2, h4, hd.2]
 constructor
 ·rintro (e | ⟨y, ⟨hy, _⟩, e1, e2⟩ | e)
  ·exact .inl e
  ·have := hasX_RI.1 (ok_has h y hy)
   rw [e1, e2] at this; exact .inl this
  ·exact .inr e
 ·rintro (e | e)
  ·exact .inl e
  ·exact .inr (.inr e)
theorem chg_s (h : StOk S.R S.F S.T S.n S.l) (hp : PtO S P) : jnS S (dlS g S.l P) = nxS g S P := by
 rw [jnS_mk, chg_u h hp]
 have := chg_l (g := g) h hp
 unfold nxS
 rw [← this]; rfl
end
theorem way_pre {p : List ByteArray} {k : Int} {x : Lf} (h0 : 0 < p.length) : wayOf p k <+: Way x ↔ (k = 3 ∧ p <+: x.p ∧ p.length < x.p.length) ∨ (x.p = p ∧ k = kd x.fl) := by
 unfold Way
 constructor
 ·intro h
  have hl := h.length_le
  rw [wayOf_len, wayOf_len] at hl
  by_cases e : p.length = x.p.length
  ·have := h.eq_of_length (by rw [wayOf_len, wayOf_len]; exact e)
   obtain ⟨e1, e2⟩ := wayOf_inj this h0
   exact .inr ⟨e1.symm, e2⟩
  ·have each : ∀ i, i < p.length → (gS p i, if i + 1 < p.length then 3 else k) = (gS x.p i, if i + 1 < x.p.length then (3 : Int) else kd x.fl) := fun i hi => by
    have h1 := wayOf_get (k := k) hi
    have h2 := wayOf_get (p := x.p) (k := kd x.fl) (i := i) (by omega)
    obtain ⟨t, ht⟩ := h
    rw [← ht, List.getElem?_append_left (by rw [wayOf_len]; exact hi), h1] at h2
    injection h2
   refine .inl ⟨?_, ?_, by omega⟩
   ·have := (Prod.mk.inj (each (p.length - 1) (by omega))).2
    rw [if_neg (by omega), if_pos (by omega)] at this
    exact this
   ·rw [List.prefix_iff_eq_take]
    refine gS_ext (by simp; omega) fun i hi => ?_
    have := (Prod.mk.inj (each i hi)).1
    rw [this]
    simp [gS, List.getD, List.getElem?_take, hi]
 ·rintro (⟨rfl, h1, h2⟩ | ⟨h1, h2⟩)
  ·rw [← way_take (k := kd x.fl) h1 h2]; exact List.take_prefix _ _
  ·rw [h1, h2]; exact List.prefix_refl _
def gnS (p : List ByteArray) (fl : Bool) (x : Lf) : Prop := x.p = p ∧ x.fl = fl
theorem way_gnS {p : List ByteArray} {fl : Bool} {x : Lf} (h0 : 0 < p.length) : wayOf p (kd fl) <+: Way x ↔ gnS p fl x := by
 rw [way_pre h0]
 unfold gnS
 constructor
 ·rintro (⟨h, _⟩ | ⟨h1, h2⟩)
  ·rcases kd_or fl with e | e <;> rw [e] at h <;> cases h
  ·exact ⟨h1, (kd_inj h2).symm⟩
 ·rintro ⟨h1, h2⟩
  exact .inr ⟨h1, by rw [h2]⟩
theorem dl_out {g : Lf → Prop} {S : Sx} {P : List Lf} {L : Int → List (Int × Int)} {ds : List Dt} (h : StOk S.R S.F S.T S.n S.l) (hp : PtO S P) (hs : ∀ r, Srt (L r)) (hi : ∀ r x, In (L r) x ↔ (r, x) ∈ ds) (hd : ∀ d : Dt, d ∈ ds ↔ (∃ y, (y ∈ S.l ∧ g y) ∧ y.r = d.1 ∧ y.q = d.2) ∨ ∃ y ∈ P, y.r = d.1 ∧ y.q = d.2) : outF L 8 = dlU g S.l P := by
 obtain ⟨h1, h2, _⟩ := outF_ok hs 8 (Nat.le_refl _)
 obtain ⟨h3, h4⟩ := dlU_ok (g := g) h hp
 refine uniq h1 h3 (fun r x => ?_)
 rw [h2, h4, hi, hd (r, x)]
 constructor
 ·intro e; exact e.2.2
 ·intro e
  refine ⟨?_, ?_, e⟩
  ·rcases e with ⟨y, ⟨hy, _⟩, e1, e2⟩ | ⟨y, hy, e1, e2⟩
   ·have := has_rok (ok_okTo h) (ok_has h y hy)
    unfold Rok dtR at this; simp only at this e1; omega
   ·have := hp.dot y hy
    unfold Rok dtR at this; simp only at this e1; omega
  ·rcases e with ⟨y, ⟨hy, _⟩, e1, e2⟩ | ⟨y, hy, e1, e2⟩
   ·have := has_rok (ok_okTo h) (ok_has h y hy)
    unfold Rok dtR at this; simp only at this e1; omega
   ·have := hp.dot y hy
    unfold Rok dtR at this; simp only at this e1; omega
theorem srt_one {l l' : List (Int × Int)} (h : Srt l) (h' : Srt l') (he : ∀ x, In l x ↔ In l' x) : l = l' := by
 have := uniq (tag_srt h (Int.le_refl 0) (by omega)) (tag_srt h' (Int.le_refl 0) (by omega)) (fun r x => by rw [tag_in, tag_in, he])
 unfold tag at this
 have inj : ∀ (a b : List (Int × Int)), a.map (fun p => ((0 : Int), p.1, p.2)) = b.map (fun p => ((0 : Int), p.1, p.2)) → a = b := by
  intro a
  induction a with
  | nil => intro b h; cases b with
   | nil => rfl
   | cons => cases h
  | cons x a ih =>
   intro b h
   cases b with
   | nil => cases h
   | cons y b =>
    simp only [List.map_cons] at h
    injection h with h1 h2
    rw [ih b h2]
    have e1 := congrArg (fun z => z.2.1) h1
    have e2 := congrArg (fun z => z.2.2) h1
    exact congrArg (· :: b) (Prod.ext e1 e2)
 exact inj _ _ this
theorem dl_Lk {g : Lf → Prop} {S : Sx} {P : List Lf} {L : Int → List (Int × Int)} {ds : List Dt} (h : StOk S.R S.F S.T S.n S.l) (hp : PtO S P) (hs : ∀ r, Srt (L r)) (hi : ∀ r x, In (L r) x ↔ (r, x) ∈ ds) (hd : ∀ d : Dt, d ∈ ds ↔ (∃ y, (y ∈ S.l ∧ g y) ∧ y.r = d.1 ∧ y.q = d.2) ∨ ∃ y ∈ P, y.r = d.1 ∧ y.q = d.2) : L = Lk (dlS g S.l P).R (dlS g S.l P).F (dlS g S.l P).T (dlS g S.l P).n := by
 funext r
 refine srt_one (hs r) (Lk_srt _ (dl_w h hp).1.1 r).1 (fun x => ?_)
 rw [hi, hd (r, x), ← flat_in]
 have : flat (dlS g S.l P).R (dlS g S.l P).F (dlS g S.l P).T (dlS g S.l P).n = dlU g S.l P := gR_flat _
 rw [this, (dlU_ok (g := g) h hp).2]
end Go.Proofs.YtcbcabhjododoaaGreat
