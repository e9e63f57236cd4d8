import Derived.Test.YtcbcabhjododoaaGreatFg21
set_option linter.unusedVariables false
set_option linter.unusedSimpArgs false
set_option maxRecDepth 100000
set_option maxHeartbeats 40000000
namespace Go.Proofs.YtcbcabhjododoaaGreat
open Go.ChangeShapes Go.WideShapes Go.ChangeAt Go.RowKit
def hgN (N N1 : List Ky → Option (Nat × Nat)) (k : Ky) : List Ky → Option (Nat × Nat)
 | [] => N []
 | y :: r => if y = k then N1 r else N (y :: r)
def hgM (M M1 : List Ky → Dt → Option ByteArray) (k : Ky) : List Ky → Dt → Option ByteArray
 | [] => M []
 | y :: r => if y = k then M1 r else M (y :: r)
def ApN (N N1 : List Ky → Option (Nat × Nat)) : Prop := ∀ p q x y, N p = some x → N1 q = some y → x.1 ≠ y.1 ∧ x.1 ≠ y.2 ∧ x.2 ≠ y.1 ∧ x.2 ≠ y.2
section
variable {w w' : World} {B c : Nat} {N N1 : List Ky → Option (Nat × Nat)} {M M1 : List Ky → Dt → Option ByteArray}
theorem Tre.hang {x0 x1 : Nat × Nat} {k : Ky} (h : Tre w B N M c) (h1 : Tre w B N1 M1 c) (hN : N [] = some x0) (hN1 : N1 [] = some x1) (hap : ApN N N1) (hg : w.grownBy w' (some x0.1)) (hm : MapF w' 140 keyV nodV x0.1 (c + 1) (fun y => if y = k then some x1 else N [y])) : Tre w' B (hgN N N1 k) (hgM M M1 k) (c + 1) := by
 have sameK : ∀ p x, N p = some x → p ≠ [] → w'.heap[x.1]? = w.heap[x.1]? := fun p x hx hp => hg.block _ (h.lt hx).1 (fun e => hp ((h.apart p [] x x0 hx hN).2.1 (by injection e)))
 have sameM : ∀ p x, N p = some x → w'.heap[x.2]? = w.heap[x.2]? := fun p x hx => hg.block _ (h.lt hx).2 (fun e => (h.apart [] p x0 x hN hx).1 (by injection e with e; exact e.symm))
 have same1 : ∀ p x, N1 p = some x → w'.heap[x.1]? = w.heap[x.1]? ∧ w'.heap[x.2]? = w.heap[x.2]? := fun p x hx => by
  have a := hap [] p x0 x hN hx
  exact ⟨hg.block _ (h1.lt hx).1 (fun e => a.1 (by injection e with e; exact e.symm)), hg.block _ (h1.lt hx).2 (fun e => a.2.1 (by injection e with e; exact e.symm))⟩
 have cs : ∀ p x, hgN N N1 k p = some x → (p = [] ∧ x = x0) ∨ (∃ r, p = k :: r ∧ N1 r = some x) ∨ (∃ y r, p = y :: r ∧ y ≠ k ∧ N (y :: r) = some x) := fun p x hx => by
  cases p with
  | nil => exact .inl ⟨rfl, by simp only [hgN] at hx; rw [hN] at hx; exact (Option.some.inj hx).symm⟩
  | cons y r =>
   simp only [hgN] at hx
   by_cases e : y = k
   ·rw [if_pos e] at hx; exact .inr (.inl ⟨r, by rw [e], hx⟩)
   ·rw [if_neg e] at hx; exact .inr (.inr ⟨y, r, rfl, e, hx⟩)
 refine ⟨fun p x hx => ?_, fun p x hx => ?_, fun p q x y hx hy => ?_, fun p x hx => ?_, fun p hp => ?_, fun p y hp => ?_⟩
 ·rcases cs p x hx with ⟨rfl, rfl⟩ | ⟨r, rfl, h2⟩ | ⟨y, r, rfl, hne, h2⟩
  ·refine hm.ext fun y => ?_
   show (if y = k then some x1 else N [y]) = hgN N N1 k [y]
   simp only [hgN]
   by_cases e : y = k
   ·rw [if_pos e, if_pos e, hN1]
   ·rw [if_neg e, if_neg e]
  ·refine (((h1.kids r x h2).same (same1 r x h2).1).mono (Nat.le_succ _)).ext fun z => ?_
   show N1 (r ++ [z]) = hgN N N1 k (k :: (r ++ [z]))
   simp [hgN]
  ·refine (((h.kids _ x h2).same (sameK _ x h2 (by simp))).mono (Nat.le_succ _)).ext fun z => ?_
   show N (y :: r ++ [z]) = hgN N N1 k (y :: (r ++ [z]))
   simp [hgN, hne]
 ·rcases cs p x hx with ⟨rfl, rfl⟩ | ⟨r, rfl, h2⟩ | ⟨y, r, rfl, hne, h2⟩
  ·exact ((h.marks [] x hN).same (sameM [] x hN)).mono (Nat.le_succ _)
  ·refine (((h1.marks r x h2).same (same1 r x h2).2).mono (Nat.le_succ _)).ext fun d => ?_
   simp [hgM]
  ·refine (((h.marks _ x h2).same (sameM _ x h2)).mono (Nat.le_succ _)).ext fun d => ?_
   simp [hgM, hne]
 ·rcases cs p x hx with ⟨rfl, rfl⟩ | ⟨r, rfl, h2⟩ | ⟨u, r, rfl, hne, h2⟩
  ·rcases cs q y hy with ⟨rfl, rfl⟩ | ⟨s, rfl, g2⟩ | ⟨v, s, rfl, gne, g2⟩
   ·exact h.apart [] [] _ _ hN hN
   ·have a := hap [] s x y hN g2
    exact ⟨a.2.1, fun e => absurd e a.1, fun e => absurd e a.2.2.2⟩
   ·exact h.apart [] _ _ _ hN g2
  ·rcases cs q y hy with ⟨rfl, rfl⟩ | ⟨s, rfl, g2⟩ | ⟨v, s, rfl, gne, g2⟩
   ·have a := hap [] r y x hN h2
    exact ⟨fun e => a.2.2.1 e.symm, fun e => absurd e.symm a.1, fun e => absurd e.symm a.2.2.2⟩
   ·have a := h1.apart r s x y h2 g2
    exact ⟨a.1, fun e => by rw [a.2.1 e], fun e => by rw [a.2.2 e]⟩
   ·have a := hap _ r y x g2 h2
    exact ⟨fun e => a.2.2.1 e.symm, fun e => absurd e.symm a.1, fun e => absurd e.symm a.2.2.2⟩
  ·rcases cs q y hy with ⟨rfl, rfl⟩ | ⟨s, rfl, g2⟩ | ⟨v, s, rfl, gne, g2⟩
   ·exact h.apart _ [] _ _ h2 hN
   ·have a := hap _ s x y h2 g2
    exact ⟨a.2.1, fun e => absurd e a.1, fun e => absurd e a.2.2.2⟩
   ·exact h.apart _ _ _ _ h2 g2
 ·rcases cs p x hx with ⟨rfl, rfl⟩ | ⟨r, rfl, h2⟩ | ⟨y, r, rfl, hne, h2⟩
  ·exact h.lo [] _ hN
  ·exact h1.lo r x h2
  ·exact h.lo _ x h2
 ·cases p with
  | nil => simp only [hgN] at hp; rw [hN] at hp; cases hp
  | cons y r =>
   simp only [hgN] at hp
   by_cases e : y = k
   ·rw [if_pos e] at hp
    show hgM M M1 k (y :: r) = _
    simp only [hgM]; rw [if_pos e]; exact h1.none' r hp
   ·rw [if_neg e] at hp
    show hgM M M1 k (y :: r) = _
    simp only [hgM]; rw [if_neg e]; exact h.none' _ hp
 ·cases p with
  | nil => simp only [hgN] at hp; rw [hN] at hp; cases hp
  | cons z r =>
   simp only [hgN, List.cons_append] at hp ⊢
   by_cases e : z = k
   ·rw [if_pos e] at hp ⊢; exact h1.up r y hp
   ·rw [if_neg e] at hp ⊢; exact h.up (z :: r) y hp
theorem Tre.new {x0 : Nat × Nat} (hk : MapF w 140 (α := Ky) keyV nodV x0.1 0 (fun _ => none)) (hm : MapF w 55 (α := Dt) dtV mrkV x0.2 0 (fun _ => none)) (hne : x0.1 ≠ x0.2) (hB : B ≤ x0.1 ∧ B ≤ x0.2) : Tre w B (fun z => if z = [] then some x0 else none) (fun _ _ => none) 0 := by
 have nil : ∀ (p : List Ky) (x : Nat × Nat), (if p = [] then some x0 else none) = some x → p = [] ∧ x = x0 := fun p x hx => by
  by_cases e : p = []
  ·rw [if_pos e] at hx; exact ⟨e, (Option.some.inj hx).symm⟩
  ·rw [if_neg e] at hx; cases hx
 refine ⟨fun p x hx => ?_, fun p x hx => ?_, fun p q x y hx hy => ?_, fun p x hx => ?_, fun p hp => rfl, fun p y hp => by rw [if_neg (by simp)]⟩
 ·obtain ⟨rfl, rfl⟩ := nil p x hx
  exact hk.ext fun y => by simp
 ·obtain ⟨rfl, rfl⟩ := nil p x hx
  exact hm.ext fun d => rfl
 ·obtain ⟨rfl, rfl⟩ := nil p x hx
  obtain ⟨rfl, rfl⟩ := nil q y hy
  exact ⟨hne, fun _ => rfl, fun _ => rfl⟩
 ·obtain ⟨rfl, rfl⟩ := nil p x hx
  exact hB
end
noncomputable def mJ (J : List Lf) (z : List Ky) (K : Ky → Prop) : List Ky → Dt → Option ByteArray
 | [] => Mk J J.length z
 | y :: r => if yes (K y) = true then Mk J J.length (z ++ y :: r) else fun _ => none
def Ah (J : List Lf) (z : List Ky) : Prop := ∃ x ∈ J, z <+: Way x
structure JT (w : World) (B : Nat) (J : List Lf) (z : List Ky) (K : Ky → Prop) (N : List Ky → Option (Nat × Nat)) (c : Nat) (x0 : Nat × Nat) : Prop where
 tre : Tre w B N (mJ J z K) c
 root : N [] = some x0
 there : ∀ y r, (N (y :: r)).isSome = true ↔ K y ∧ Ah J (z ++ y :: r)
structure JF (w : World) (B : Nat) (J : List Lf) (z : List Ky) (N : List Ky → Option (Nat × Nat)) (c : Nat) (x0 : Nat × Nat) : Prop where
 tre : Tre w B N (fun r => Mk J J.length (z ++ r)) c
 root : N [] = some x0
 there : ∀ y r, (N (y :: r)).isSome = true ↔ Ah J (z ++ y :: r)
theorem JT.full {w : World} {B : Nat} {J : List Lf} {z : List Ky} {K : Ky → Prop} {N : List Ky → Option (Nat × Nat)} {c : Nat} {x0 : Nat × Nat} (h : JT w B J z K N c x0) (hK : ∀ y, Ah J (z ++ [y]) → K y) : JF w B J z N c x0 := by
 have up : ∀ y r, Ah J (z ++ y :: r) → Ah J (z ++ [y]) := fun y r ⟨x, hx, hp⟩ => ⟨x, hx, List.IsPrefix.trans (by rw [show z ++ y :: r = (z ++ [y]) ++ r by simp]; exact List.prefix_append _ _) hp⟩
 have em : mJ J z K = fun r => Mk J J.length (z ++ r) := by
  funext r
  cases r with
  | nil => simp [mJ]
  | cons y r =>
   simp only [mJ]
   by_cases e : K y
   ·rw [if_pos (yes_t e)]
   ·rw [if_neg (by rw [yes_f e]; simp)]
    funext d
    cases hv : Mk J J.length (z ++ y :: r) d with
    | none => rfl
    | some v =>
     obtain ⟨j, hj, h2, _⟩ := Mk_ne.1 (show Mk J J.length (z ++ y :: r) d ≠ none by rw [hv]; simp)
     exact absurd (hK y (up y r ⟨gL J j, gL_mem.2 ⟨j, hj, rfl⟩, by rw [h2]; exact List.prefix_refl _⟩)) e
 exact ⟨by rw [← em]; exact h.tre, h.root, fun y r => (h.there y r).trans ⟨fun g => g.2, fun g => ⟨hK y (up y r g), g⟩⟩⟩
theorem JT.hang {w w' : World} {B : Nat} {J : List Lf} {z : List Ky} {K : Ky → Prop} {N N1 : List Ky → Option (Nat × Nat)} {c : Nat} {x0 x1 : Nat × Nat} {y : Ky} (h : JT w B J z K N c x0) (h1 : JF w B J (z ++ [y]) N1 c x1) (hy : ¬ K y) (ha : Ah J (z ++ [y])) (hap : ApN N N1) (hg : w.grownBy w' (some x0.1)) (hm : MapF w' 140 keyV nodV x0.1 (c + 1) (fun u => if u = y then some x1 else N [u])) :
  JT w' B J z (fun u => K u ∨ u = y) (hgN N N1 y) (c + 1) x0 := by
 have ht := h.tre.hang h1.tre h.root h1.root hap hg hm
 have em : hgM (mJ J z K) (fun r => Mk J J.length ((z ++ [y]) ++ r)) y = mJ J z (fun u => K u ∨ u = y) := by
  funext r
  cases r with
  | nil => rfl
  | cons u r =>
   simp only [hgM, mJ]
   by_cases e : u = y
   ·rw [if_pos e, if_pos (yes_t (.inr e)), e]; simp
   ·rw [if_neg e]
    by_cases e2 : K u
    ·rw [if_pos (yes_t e2), if_pos (yes_t (.inl e2))]
    ·rw [if_neg (by rw [yes_f e2]; simp), if_neg (by rw [yes_f (fun hh => hh.elim e2 e)]; simp)]
 rw [em] at ht
 refine ⟨ht, h.root, fun u r => ?_⟩
 simp only [hgN]
 by_cases e : u = y
 ·rw [if_pos e]
  cases r with
  | nil => rw [h1.root, e]; exact ⟨fun _ => ⟨.inr rfl, ha⟩, fun _ => rfl⟩
  | cons v r =>
   rw [h1.there v r, e]
   rw [show z ++ [y] ++ v :: r = z ++ y :: v :: r by simp]
   exact ⟨fun g => ⟨.inr rfl, g⟩, fun g => g.2⟩
 ·rw [if_neg e, h.there u r]
  exact ⟨fun g => ⟨.inl g.1, g.2⟩, fun g => ⟨g.1.resolve_right e, g.2⟩⟩
theorem JT.skip {w : World} {B : Nat} {J : List Lf} {z : List Ky} {K : Ky → Prop} {N : List Ky → Option (Nat × Nat)} {c : Nat} {x0 : Nat × Nat} {y : Ky} (h : JT w B J z K N c x0) (hy : ¬ K y) (ha : ¬ Ah J (z ++ [y])) : JT w B J z (fun u => K u ∨ u = y) N c x0 := by
 have up : ∀ r, ¬ Ah J (z ++ y :: r) := fun r ⟨x, hx, hp⟩ => ha ⟨x, hx, List.IsPrefix.trans (by rw [show z ++ y :: r = (z ++ [y]) ++ r by simp]; exact List.prefix_append _ _) hp⟩
 have em : mJ J z K = mJ J z (fun u => K u ∨ u = y) := by
  funext r
  cases r with
  | nil => rfl
  | cons u r =>
   simp only [mJ]
   by_cases e2 : K u
   ·rw [if_pos (yes_t e2), if_pos (yes_t (.inl e2))]
   ·rw [if_neg (by rw [yes_f e2]; simp)]
    by_cases e : u = y
    ·rw [if_pos (yes_t (.inr e))]
     funext d
     cases hv : Mk J J.length (z ++ u :: r) d with
     | none => rfl
     | some v =>
      obtain ⟨j, hj, h2, _⟩ := Mk_ne.1 (show Mk J J.length (z ++ u :: r) d ≠ none by rw [hv]; simp)
      exact absurd ⟨gL J j, gL_mem.2 ⟨j, hj, rfl⟩, by rw [h2, e]; exact List.prefix_refl _⟩ (up r)
    ·rw [if_neg (by rw [yes_f (fun hh => hh.elim e2 e)]; simp)]
 refine ⟨by rw [← em]; exact h.tre, h.root, fun u r => ?_⟩
 rw [h.there u r]
 constructor
 ·exact fun g => ⟨.inl g.1, g.2⟩
 ·rintro ⟨g1 | g1, g2⟩
  ·exact ⟨g1, g2⟩
  ·rw [g1] at g2; exact absurd g2 (up r)
theorem JF.bears {w : World} {B : Nat} {J : List Lf} {z : List Ky} {N : List Ky → Option (Nat × Nat)} {c : Nat} {x0 : Nat × Nat} (h : JF w B J z N c x0) : Ah J z ↔ (∃ y, N [y] ≠ none) ∨ ∃ d, Mk J J.length z d ≠ none := by
 constructor
 ·rintro ⟨x, hx, hp⟩
  obtain ⟨s, hs⟩ := hp
  obtain ⟨j, hj, e⟩ := gL_mem.1 hx
  cases s with
  | nil => exact .inr ⟨(x.r, x.q), Mk_ne.2 ⟨j, hj, by rw [e, ← hs]; simp, by rw [e]⟩⟩
  | cons y s =>
   refine .inl ⟨y, fun hn => ?_⟩
   have := (h.there y []).2 ⟨x, hx, by rw [← hs, show z ++ y :: s = (z ++ [y]) ++ s by simp]; exact List.prefix_append _ _⟩
   rw [hn] at this; cases this
 ·rintro (⟨y, hy⟩ | ⟨d, hd⟩)
  ·have h1 : (N [y]).isSome = true := by
    cases hv : N [y] with
    | none => exact absurd hv hy
    | some v => rfl
   obtain ⟨x, hx, hp⟩ := (h.there y []).1 h1
   exact ⟨x, hx, List.IsPrefix.trans (List.prefix_append _ _) hp⟩
  ·obtain ⟨j, hj, h2, _⟩ := Mk_ne.1 hd
   exact ⟨gL J j, gL_mem.2 ⟨j, hj, rfl⟩, by rw [h2]; exact List.prefix_refl _⟩
noncomputable def kmF (fa fb : Dt → Option ByteArray) (hb : Dt → Bool) (f : Dt → Option ByteArray) : Dt → Option ByteArray := fun d =>
 match fa d with
 | some m => if yes (hb d = false ∨ fb d = some m) = true then some m else f d
 | none => f d
theorem kmF_some {fa fb : Dt → Option ByteArray} {hb : Dt → Bool} {f : Dt → Option ByteArray} {d : Dt} {v : ByteArray} : kmF fa fb hb f d = some v ↔ (fa d = some v ∧ (hb d = false ∨ fb d = some v)) ∨ ((∀ m, fa d = some m → ¬ (hb d = false ∨ fb d = some m)) ∧ f d = some v) := by
 unfold kmF
 cases hf : fa d with
 | none =>
  constructor
  ·intro h; exact .inr ⟨fun m hm => (by cases hm), h⟩
  ·rintro (⟨h, _⟩ | ⟨_, h⟩)
   ·cases h
   ·exact h
 | some m =>
  dsimp only
  by_cases e : hb d = false ∨ fb d = some m
  ·rw [if_pos (yes_t e)]
   constructor
   ·intro h; cases h; exact .inl ⟨rfl, e⟩
   ·rintro (⟨h, _⟩ | ⟨h, _⟩)
    ·exact h
    ·exact absurd e (h m rfl)
  ·rw [if_neg (by rw [yes_f e]; simp)]
   constructor
   ·intro h; exact .inr ⟨fun m' hm => by cases hm; exact e, h⟩
   ·rintro (⟨h, h2⟩ | ⟨_, h⟩)
    ·cases h; exact absurd h2 e
    ·exact h
section
variable {R F T : Nat → Int} {n : Nat} {la : List Lf} {R' F' T' : Nat → Int} {n' : Nat} {lb : List Lf}
theorem mark_known (h : StW R F T n la) {z : List Ky} {d : Dt} {v : ByteArray} (hv : Mk la la.length z d = some v) : hasK R F T d.1 d.2 d.2 n = true := by
 obtain ⟨j, hj, _, h3⟩ := Mk_ne.1 (show Mk la la.length z d ≠ none by rw [hv]; simp)
 have := (h.2.2.1 j hj).2.1
 have e1 : (gL la j).r = d.1 := congrArg Prod.fst h3
 have e2 : (gL la j).q = d.2 := congrArg Prod.snd h3
 rw [e1, e2] at this; exact this
theorem kmF_jn (h : StW R F T n la) (h' : StW R' F' T' n' lb) (z : List Ky) :
  kmF (Mk lb lb.length z) (Mk la la.length z) (fun d => hasK R F T d.1 d.2 d.2 n) (kmF (Mk la la.length z) (Mk lb lb.length z) (fun d => hasK R' F' T' d.1 d.2 d.2 n') (fun _ => none)) = Mk (jn R F T n la R' F' T' n' lb) (jn R F T n la R' F' T' n' lb).length z := by
 funext d
 have key : ∀ v, kmF (Mk lb lb.length z) (Mk la la.length z) (fun d => hasK R F T d.1 d.2 d.2 n) (kmF (Mk la la.length z) (Mk lb lb.length z) (fun d => hasK R' F' T' d.1 d.2 d.2 n') (fun _ => none)) d = some v ↔ Mk (jn R F T n la R' F' T' n' lb) (jn R F T n la R' F' T' n' lb).length z d = some v := fun v => by
  rw [kmF_some, kmF_some, jn_mark h h']
  constructor
  ·rintro (⟨g1, g2 | g2⟩ | ⟨_, ⟨g1, g2 | g2⟩ | ⟨_, g⟩⟩)
   ·exact .inr ⟨g1, g2⟩
   ·exact .inl ⟨g2, .inl g1⟩
   ·exact .inl ⟨g1, .inr g2⟩
   ·exact .inl ⟨g1, .inl g2⟩
   ·cases g
  ·rintro (⟨g1, g2 | g2⟩ | ⟨g1, g2⟩)
   ·exact .inl ⟨g2, .inr g1⟩
   ·refine .inr ⟨fun m hm => ?_, .inl ⟨g1, .inl g2⟩⟩
    have := mark_known h' hm
    rw [this] at g2; cases g2
   ·exact .inl ⟨g1, .inl g2⟩
 cases hv : Mk (jn R F T n la R' F' T' n' lb) (jn R F T n la R' F' T' n' lb).length z d with
 | some v => exact (key v).2 hv
 | none =>
  cases hk : kmF (Mk lb lb.length z) (Mk la la.length z) (fun d => hasK R F T d.1 d.2 d.2 n) (kmF (Mk la la.length z) (Mk lb lb.length z) (fun d => hasK R' F' T' d.1 d.2 d.2 n') (fun _ => none)) d with
  | none => rfl
  | some v => have := (key v).1 hk; rw [hv] at this; cases this
end
theorem JT.start {w : World} {B : Nat} {J : List Lf} {z : List Ky} {x0 : Nat × Nat} {c : Nat} (hk : MapF w 140 (α := Ky) keyV nodV x0.1 0 (fun _ => none)) (hm : MapF w 55 (α := Dt) dtV mrkV x0.2 c (Mk J J.length z)) (hne : x0.1 ≠ x0.2) (hB : B ≤ x0.1 ∧ B ≤ x0.2) : JT w B J z (fun _ => False) (fun r => if r = [] then some x0 else none) c x0 := by
 have nil : ∀ (p : List Ky) (x : Nat × Nat), (if p = [] then some x0 else none) = some x → p = [] ∧ x = x0 := fun p x hx => by
  by_cases e : p = []
  ·rw [if_pos e] at hx; exact ⟨e, (Option.some.inj hx).symm⟩
  ·rw [if_neg e] at hx; cases hx
 refine ⟨⟨fun p x hx => ?_, fun p x hx => ?_, fun p q x y hx hy => ?_, fun p x hx => ?_, fun p hp => ?_, fun p y hp => by rw [if_neg (by simp)]⟩, if_pos rfl, fun y r => ?_⟩
 ·obtain ⟨rfl, rfl⟩ := nil p x hx
  exact (hk.mono (Nat.zero_le _)).ext fun y => by simp
 ·obtain ⟨rfl, rfl⟩ := nil p x hx
  exact hm
 ·obtain ⟨rfl, rfl⟩ := nil p x hx
  obtain ⟨rfl, rfl⟩ := nil q y hy
  exact ⟨hne, fun _ => rfl, fun _ => rfl⟩
 ·obtain ⟨rfl, rfl⟩ := nil p x hx
  exact hB
 ·cases p with
  | nil => simp at hp
  | cons y r => simp only [mJ]; rw [if_neg (by rw [yes_f (fun h => h)]; simp)]
 ·rw [if_neg (by simp)]
  exact ⟨fun h => (by cases h), fun h => h.1.elim⟩
end Go.Proofs.YtcbcabhjododoaaGreat
