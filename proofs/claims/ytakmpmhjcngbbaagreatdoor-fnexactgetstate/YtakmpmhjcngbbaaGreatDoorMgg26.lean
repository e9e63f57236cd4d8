import Derived.Test.YtakmpmhjcngbbaaGreatDoorMgg25
set_option linter.unusedVariables false
set_option linter.unusedSimpArgs false
set_option maxRecDepth 100000
set_option maxHeartbeats 40000000
namespace Go.Proofs.YtakmpmhjcngbbaaGreatDoor
open Go.ChangeShapes Go.WideShapes Go.ChangeAt Go.RowKit
section
variable {R F T : Nat → Int} {n : Nat} {la : List Lf} {R' F' T' : Nat → Int} {n' : Nat} {lb : List Lf}
end
def hgN (N N1 : List Ky → Option (Nat × Nat)) (k : Ky) : List Ky → Option (Nat × Nat)
  | [] => N []
  | y :: r => if y = k then N1 r else N (y :: r)
def hgM (M M1 : List Ky → Dt → Option ByteArray) (k : Ky) : List Ky → Dt → Option ByteArray
  | [] => M []
  | y :: r => if y = k then M1 r else M (y :: r)
def ApN (N N1 : List Ky → Option (Nat × Nat)) : Prop := ∀ p q x y, N p = some x → N1 q = some y → x.1 ≠ y.1 ∧ x.1 ≠ y.2 ∧ x.2 ≠ y.1 ∧ x.2 ≠ y.2
section
variable {w w' : World} {B c : Nat} {N N1 : List Ky → Option (Nat × Nat)} {M M1 : List Ky → Dt → Option ByteArray}
theorem Tre.hang {x0 x1 : Nat × Nat} {k : Ky} (h : Tre w B N M c) (h1 : Tre w B N1 M1 c) (hN : N [] = some x0) (hN1 : N1 [] = some x1) (hap : ApN N N1) (hg : w.grownBy w' (some x0.1)) (hm : MapF w' 110 keyV nodV x0.1 (c + 1) (fun y => if y = k then some x1 else N [y])) : Tre w' B (hgN N N1 k) (hgM M M1 k) (c + 1) := by
  have sameK : ∀ p x, N p = some x → p ≠ [] → w'.heap[x.1]? = w.heap[x.1]? := fun p x hx hp => hg.block _ (h.lt hx).1 (fun e => hp ((h.apart p [] x x0 hx hN).2.1 (by injection e)))
  have sameM : ∀ p x, N p = some x → w'.heap[x.2]? = w.heap[x.2]? := fun p x hx => hg.block _ (h.lt hx).2 (fun e => (h.apart [] p x0 x hN hx).1 (by injection e with e; exact e.symm))
  have same1 : ∀ p x, N1 p = some x → w'.heap[x.1]? = w.heap[x.1]? ∧ w'.heap[x.2]? = w.heap[x.2]? := fun p x hx => by
    have a := hap [] p x0 x hN hx
    exact ⟨hg.block _ (h1.lt hx).1 (fun e => a.1 (by injection e with e; exact e.symm)), hg.block _ (h1.lt hx).2 (fun e => a.2.1 (by injection e with e; exact e.symm))⟩
  have cs : ∀ p x, hgN N N1 k p = some x → (p = [] ∧ x = x0) ∨ (∃ r, p = k :: r ∧ N1 r = some x) ∨ (∃ y r, p = y :: r ∧ y ≠ k ∧ N (y :: r) = some x) := fun p x hx => by
    cases p with
    | nil => exact .inl ⟨rfl, by simp only [hgN] at hx; rw [hN] at hx; exact (Option.some.inj hx).symm⟩
    | cons y r =>
      simp only [hgN] at hx
      by_cases e : y = k
      · rw [if_pos e] at hx; exact .inr (.inl ⟨r, by rw [e], hx⟩)
      · rw [if_neg e] at hx; exact .inr (.inr ⟨y, r, rfl, e, hx⟩)
  refine ⟨fun p x hx => ?_, fun p x hx => ?_, fun p q x y hx hy => ?_, fun p x hx => ?_, fun p hp => ?_, fun p y hp => ?_⟩
  · rcases cs p x hx with ⟨rfl, rfl⟩ | ⟨r, rfl, h2⟩ | ⟨y, r, rfl, hne, h2⟩
    · refine hm.ext fun y => ?_
      show (if y = k then some x1 else N [y]) = hgN N N1 k [y]
      simp only [hgN]
      by_cases e : y = k
      · rw [if_pos e, if_pos e, hN1]
      · rw [if_neg e, if_neg e]
    · refine (((h1.kids r x h2).same (same1 r x h2).1).mono (Nat.le_succ _)).ext fun z => ?_
      show N1 (r ++ [z]) = hgN N N1 k (k :: (r ++ [z]))
      simp [hgN]
    · refine (((h.kids _ x h2).same (sameK _ x h2 (by simp))).mono (Nat.le_succ _)).ext fun z => ?_
      show N (y :: r ++ [z]) = hgN N N1 k (y :: (r ++ [z]))
      simp [hgN, hne]
  · rcases cs p x hx with ⟨rfl, rfl⟩ | ⟨r, rfl, h2⟩ | ⟨y, r, rfl, hne, h2⟩
    · exact ((h.marks [] x hN).same (sameM [] x hN)).mono (Nat.le_succ _)
    · refine (((h1.marks r x h2).same (same1 r x h2).2).mono (Nat.le_succ _)).ext fun d => ?_
      simp [hgM]
    · refine (((h.marks _ x h2).same (sameM _ x h2)).mono (Nat.le_succ _)).ext fun d => ?_
      simp [hgM, hne]
  · rcases cs p x hx with ⟨rfl, rfl⟩ | ⟨r, rfl, h2⟩ | ⟨u, r, rfl, hne, h2⟩
    · rcases cs q y hy with ⟨rfl, rfl⟩ | ⟨s, rfl, g2⟩ | ⟨v, s, rfl, gne, g2⟩
      · exact h.apart [] [] _ _ hN hN
      · have a := hap [] s x y hN g2
        exact ⟨a.2.1, fun e => absurd e a.1, fun e => absurd e a.2.2.2⟩
      · exact h.apart [] _ _ _ hN g2
    · rcases cs q y hy with ⟨rfl, rfl⟩ | ⟨s, rfl, g2⟩ | ⟨v, s, rfl, gne, g2⟩
      · have a := hap [] r y x hN h2
        exact ⟨fun e => a.2.2.1 e.symm, fun e => absurd e.symm a.1, fun e => absurd e.symm a.2.2.2⟩
      · have a := h1.apart r s x y h2 g2
        exact ⟨a.1, fun e => by rw [a.2.1 e], fun e => by rw [a.2.2 e]⟩
      · have a := hap _ r y x g2 h2
        exact ⟨fun e => a.2.2.1 e.symm, fun e => absurd e.symm a.1, fun e => absurd e.symm a.2.2.2⟩
    · rcases cs q y hy with ⟨rfl, rfl⟩ | ⟨s, rfl, g2⟩ | ⟨v, s, rfl, gne, g2⟩
      · exact h.apart _ [] _ _ h2 hN
      · have a := hap _ s x y h2 g2
        exact ⟨a.2.1, fun e => absurd e a.1, fun e => absurd e a.2.2.2⟩
      · exact h.apart _ _ _ _ h2 g2
  · rcases cs p x hx with ⟨rfl, rfl⟩ | ⟨r, rfl, h2⟩ | ⟨y, r, rfl, hne, h2⟩
    · exact h.lo [] _ hN
    · exact h1.lo r x h2
    · exact h.lo _ x h2
  · cases p with
    | nil => simp only [hgN] at hp; rw [hN] at hp; cases hp
    | cons y r =>
      simp only [hgN] at hp
      by_cases e : y = k
      · rw [if_pos e] at hp
        show hgM M M1 k (y :: r) = _
        simp only [hgM]; rw [if_pos e]; exact h1.none' r hp
      · rw [if_neg e] at hp
        show hgM M M1 k (y :: r) = _
        simp only [hgM]; rw [if_neg e]; exact h.none' _ hp
  · cases p with
    | nil => simp only [hgN] at hp; rw [hN] at hp; cases hp
    | cons z r =>
      simp only [hgN, List.cons_append] at hp ⊢
      by_cases e : z = k
      · rw [if_pos e] at hp ⊢; exact h1.up r y hp
      · rw [if_neg e] at hp ⊢; exact h.up (z :: r) y hp
theorem Tre.new {x0 : Nat × Nat} (hk : MapF w 110 (α := Ky) keyV nodV x0.1 0 (fun _ => none)) (hm : MapF w 87 (α := Dt) dtV mrkV x0.2 0 (fun _ => none)) (hne : x0.1 ≠ x0.2) (hB : B ≤ x0.1 ∧ B ≤ x0.2) : Tre w B (fun z => if z = [] then some x0 else none) (fun _ _ => none) 0 := by
  have nil : ∀ (p : List Ky) (x : Nat × Nat), (if p = [] then some x0 else none) = some x → p = [] ∧ x = x0 := fun p x hx => by
    by_cases e : p = []
    · rw [if_pos e] at hx; exact ⟨e, (Option.some.inj hx).symm⟩
    · rw [if_neg e] at hx; cases hx
  refine ⟨fun p x hx => ?_, fun p x hx => ?_, fun p q x y hx hy => ?_, fun p x hx => ?_, fun p hp => rfl, fun p y hp => by rw [if_neg (by simp)]⟩
  · obtain ⟨rfl, rfl⟩ := nil p x hx
    exact hk.ext fun y => by simp
  · obtain ⟨rfl, rfl⟩ := nil p x hx
    exact hm.ext fun d => rfl
  · obtain ⟨rfl, rfl⟩ := nil p x hx
    obtain ⟨rfl, rfl⟩ := nil q y hy
    exact ⟨hne, fun _ => rfl, fun _ => rfl⟩
  · obtain ⟨rfl, rfl⟩ := nil p x hx
    exact hB
end
noncomputable def mJ (J : List Lf) (z : List Ky) (K : Ky → Prop) : List Ky → Dt → Option ByteArray
  | [] => Mk J J.length z
  | y :: r => if yes (K y) = true then Mk J J.length (z ++ y :: r) else fun _ => none
def Ah (J : List Lf) (z : List Ky) : Prop := ∃ x ∈ J, z <+: Way x
structure JT (w : World) (B : Nat) (J : List Lf) (z : List Ky) (K : Ky → Prop) (N : List Ky → Option (Nat × Nat)) (c : Nat) (x0 : Nat × Nat) : Prop where
  tre : Tre w B N (mJ J z K) c
  root : N [] = some x0
  there : ∀ y r, (N (y :: r)).isSome = true ↔ K y ∧ Ah J (z ++ y :: r)
structure JF (w : World) (B : Nat) (J : List Lf) (z : List Ky) (N : List Ky → Option (Nat × Nat)) (c : Nat) (x0 : Nat × Nat) : Prop where
  tre : Tre w B N (fun r => Mk J J.length (z ++ r)) c
  root : N [] = some x0
  there : ∀ y r, (N (y :: r)).isSome = true ↔ Ah J (z ++ y :: r)
theorem JT.full {w : World} {B : Nat} {J : List Lf} {z : List Ky} {K : Ky → Prop} {N : List Ky → Option (Nat × Nat)} {c : Nat} {x0 : Nat × Nat} (h : JT w B J z K N c x0) (hK : ∀ y, Ah J (z ++ [y]) → K y) : JF w B J z N c x0 := by
  have up : ∀ y r, Ah J (z ++ y :: r) → Ah J (z ++ [y]) := fun y r ⟨x, hx, hp⟩ => ⟨x, hx, List.IsPrefix.trans (by rw [show z ++ y :: r = (z ++ [y]) ++ r by simp]; exact List.prefix_append _ _) hp⟩
  have em : mJ J z K = fun r => Mk J J.length (z ++ r) := by
    funext r
    cases r with
    | nil => simp [mJ]
    | cons y r =>
      simp only [mJ]
      by_cases e : K y
      · rw [if_pos (yes_t e)]
      · rw [if_neg (by rw [yes_f e]; simp)]
        funext d
        cases hv : Mk J J.length (z ++ y :: r) d with
        | none => rfl
        | some v =>
          obtain ⟨j, hj, h2, _⟩ := Mk_ne.1 (show Mk J J.length (z ++ y :: r) d ≠ none by rw [hv]; simp)
          exact absurd (hK y (up y r ⟨gL J j, gL_mem.2 ⟨j, hj, rfl⟩, by rw [h2]; exact List.prefix_refl _⟩)) e
  exact ⟨by rw [← em]; exact h.tre, h.root, fun y r => (h.there y r).trans ⟨fun g => g.2, fun g => ⟨hK y (up y r g), g⟩⟩⟩
theorem JT.hang {w w' : World} {B : Nat} {J : List Lf} {z : List Ky} {K : Ky → Prop} {N N1 : List Ky → Option (Nat × Nat)} {c : Nat} {x0 x1 : Nat × Nat} {y : Ky} (h : JT w B J z K N c x0) (h1 : JF w B J (z ++ [y]) N1 c x1) (hy : ¬ K y) (ha : Ah J (z ++ [y])) (hap : ApN N N1) (hg : w.grownBy w' (some x0.1)) (hm : MapF w' 110 keyV nodV x0.1 (c + 1) (fun u => if u = y then some x1 else N [u])) :
    JT w' B J z (fun u => K u ∨ u = y) (hgN N N1 y) (c + 1) x0 := by
  have ht := h.tre.hang h1.tre h.root h1.root hap hg hm
  have em : hgM (mJ J z K) (fun r => Mk J J.length ((z ++ [y]) ++ r)) y = mJ J z (fun u => K u ∨ u = y) := by
    funext r
    cases r with
    | nil => rfl
    | cons u r =>
      simp only [hgM, mJ]
      by_cases e : u = y
      · rw [if_pos e, if_pos (yes_t (.inr e)), e]; simp
      · rw [if_neg e]
        by_cases e2 : K u
        · rw [if_pos (yes_t e2), if_pos (yes_t (.inl e2))]
        · rw [if_neg (by rw [yes_f e2]; simp), if_neg (by rw [yes_f (fun hh => hh.elim e2 e)]; simp)]
  rw [em] at ht
  refine ⟨ht, h.root, fun u r => ?_⟩
  simp only [hgN]
  by_cases e : u = y
  · rw [if_pos e]
    cases r with
    | nil => rw [h1.root, e]; exact ⟨fun _ => ⟨.inr rfl, ha⟩, fun _ => rfl⟩
    | cons v r =>
      rw [h1.there v r, e]
      rw [show z ++ [y] ++ v :: r = z ++ y :: v :: r by simp]
      exact ⟨fun g => ⟨.inr rfl, g⟩, fun g => g.2⟩
  · rw [if_neg e, h.there u r]
    exact ⟨fun g => ⟨.inl g.1, g.2⟩, fun g => ⟨g.1.resolve_right e, g.2⟩⟩
noncomputable def stM (M : List Ky → Dt → Option ByteArray) (z : Lf) : List Ky → Dt → Option ByteArray := updM M (Way z) (z.r, z.q) z.v
theorem Mk_fold (l : List Lf) : ∀ k, k ≤ l.length → Mk l k = (l.take k).foldl stM (fun _ _ => none)
  | 0, _ => by simp [Mk]
  | k + 1, h => by
    rw [gL_get (by omega), List.foldl_append, ← Mk_fold l k (by omega)]
    rfl
theorem Mk_all (l : List Lf) : Mk l l.length = l.foldl stM (fun _ _ => none) := by
  rw [Mk_fold l _ (Nat.le_refl _), List.take_length]
theorem st_other {q : List Ky} : ∀ (m : List Lf) (M : List Ky → Dt → Option ByteArray), (∀ z ∈ m, Way z ≠ q) → (m.foldl stM M) q = M q
  | [], M, _ => rfl
  | z :: m, M, h => by
    rw [List.foldl_cons, st_other m _ (fun y hy => h y (List.mem_cons_of_mem _ hy))]
    exact updM_other _ _ _ (Ne.symm (h z (List.mem_cons_self ..)))
theorem st_at {q : List Ky} : ∀ (m : List Lf) (M M' : List Ky → Dt → Option ByteArray), M q = M' q → (m.foldl stM M) q = (m.foldl stM M') q
  | [], M, M', h => h
  | z :: m, M, M', h => by
    rw [List.foldl_cons, List.foldl_cons]
    refine st_at m _ _ ?_
    unfold stM
    by_cases e : q = Way z
    · subst e; rw [updM_same, updM_same, h]
    · rw [updM_other _ _ _ e, updM_other _ _ _ e, h]
theorem st_same {q : List Ky} : ∀ (m : List Lf) (M : List Ky → Dt → Option ByteArray), (∀ z ∈ m, Way z = q) → (m.foldl stM M) q = m.foldl (fun g z => updF g (z.r, z.q) (some z.v)) (M q)
  | [], M, _ => rfl
  | z :: m, M, h => by
    rw [List.foldl_cons, List.foldl_cons, st_same m _ (fun y hy => h y (List.mem_cons_of_mem _ hy))]
    have e := h z (List.mem_cons_self ..)
    congr 1
    unfold stM
    rw [e, updM_same]
theorem Mk_app_l {l m : List Lf} {q : List Ky} (h : ∀ z ∈ m, Way z ≠ q) : Mk (l ++ m) (l ++ m).length q = Mk l l.length q := by
  rw [Mk_all, Mk_all, List.foldl_append, st_other m _ h]
theorem Mk_app_r {l m : List Lf} {q : List Ky} (h : ∀ z ∈ l, Way z ≠ q) : Mk (l ++ m) (l ++ m).length q = Mk m m.length q := by
  rw [Mk_all, Mk_all, List.foldl_append]
  exact st_at m _ _ (st_other l _ h)
theorem Mk_lsM {l : List Lf} {q : List Ky} (h : ∀ z ∈ l, Way z = q) : Mk l l.length q = lsM l := by
  rw [Mk_all, st_same l _ h]
  rfl
theorem Mk_none {l : List Lf} {q : List Ky} (h : ∀ z ∈ l, Way z ≠ q) : Mk l l.length q = fun _ => none := by
  rw [Mk_all, st_other l _ h]
theorem wayOf_snoc (p : List ByteArray) (s : ByteArray) (k : Int) : wayOf (p ++ [s]) k = wayOf p 3 ++ [(s, k)] := by
  unfold wayOf
  rw [List.length_append, List.length_singleton, List.range_succ, List.map_append]
  congr 1
  · refine List.map_congr_left fun i hi => ?_
    have hi := List.mem_range.1 hi
    rw [if_pos (by omega)]
    have e : gS (p ++ [s]) i = gS p i := by simp [gS, List.getD, List.getElem?_append_left hi]
    rw [e]
    by_cases h : i + 1 < p.length
    · rw [if_pos h]
    · rw [if_neg h]
  · simp [gS, List.getD]
theorem JF.leaves {w : World} {B : Nat} {l : List Lf} {z : List Ky} {s s' : Nat} (hz : ∀ x ∈ l, Way x = z) (hss : s ≠ s') (h1 : B ≤ s) (h2 : B ≤ s') (m1 : MapF w 110 (α := Ky) keyV nodV s 0 (fun _ => none)) (m2 : MapF w 87 (α := Dt) dtV mrkV s' l.length (lsM l)) :
    JF w B l z (fun r => if r = [] then some (s, s') else none) l.length (s, s') := by
  have hn : ∀ y r, ∀ x ∈ l, Way x ≠ z ++ y :: r := fun y r x hx e => by
    have := congrArg List.length ((hz x hx).symm.trans e)
    simp at this
  have hN : ∀ p x, (fun r : List Ky => if r = [] then some (s, s') else none) p = some x → p = [] ∧ x = (s, s') := fun p x h => by
    by_cases e : p = []
    · simp [e] at h; exact ⟨e, h.symm⟩
    · simp [e] at h
  refine ⟨⟨fun p x hx => ?_, fun p x hx => ?_, fun p q x y hx hy => ?_, fun p x hx => ?_, fun p hp => ?_, fun p y hp => ?_⟩, by simp, fun y r => ?_⟩
  · obtain ⟨rfl, rfl⟩ := hN p x hx
    exact (m1.mono (Nat.zero_le _)).ext (fun y => by simp)
  · obtain ⟨rfl, rfl⟩ := hN p x hx
    rw [List.append_nil, Mk_lsM hz]
    exact m2
  · obtain ⟨rfl, rfl⟩ := hN p x hx
    obtain ⟨rfl, rfl⟩ := hN q y hy
    exact ⟨hss, fun _ => rfl, fun _ => rfl⟩
  · obtain ⟨rfl, rfl⟩ := hN p x hx
    exact ⟨h1, h2⟩
  · cases p with
    | nil => simp at hp
    | cons y r => exact Mk_none (hn y r)
  · simp
  · constructor
    · intro h; simp at h
    · rintro ⟨x, hx, hp⟩
      rw [hz x hx] at hp
      have := hp.length_le
      simp at this
      omega
theorem JF.more {w : World} {B : Nat} {J J' : List Lf} {z : List Ky} {N : List Ky → Option (Nat × Nat)} {c : Nat} {x0 : Nat × Nat} (h : JF w B J' z N c x0) (hn : ∀ x ∈ J, ¬ z <+: Way x) : JF w B (J ++ J') z N c x0 := by
  have e : (fun r => Mk (J ++ J') (J ++ J').length (z ++ r)) = fun r => Mk J' J'.length (z ++ r) := by
    funext r
    exact Mk_app_r (fun x hx e => hn x hx (by rw [e]; exact List.prefix_append _ _))
  refine ⟨by rw [e]; exact h.tre, h.root, fun y r => (h.there y r).trans ?_⟩
  constructor
  · rintro ⟨x, hx, hp⟩; exact ⟨x, List.mem_append.2 (.inr hx), hp⟩
  · rintro ⟨x, hx, hp⟩
    rcases List.mem_append.1 hx with hx | hx
    · exact absurd ((List.prefix_append z (y :: r)).trans hp) (hn x hx)
    · exact ⟨x, hx, hp⟩
theorem JT.more {w : World} {B : Nat} {J J' : List Lf} {z : List Ky} {K : Ky → Prop} {N : List Ky → Option (Nat × Nat)} {c : Nat} {x0 : Nat × Nat} (h : JT w B J z K N c x0) (h0 : ∀ x ∈ J', Way x ≠ z) (hn : ∀ x ∈ J', ∀ y, K y → ¬ (z ++ [y]) <+: Way x) : JT w B (J ++ J') z K N c x0 := by
  have up : ∀ y r, z ++ y :: r = (z ++ [y]) ++ r := fun y r => by simp
  have e : mJ (J ++ J') z K = mJ J z K := by
    funext r
    cases r with
    | nil => exact Mk_app_l h0
    | cons y r =>
      simp only [mJ]
      by_cases ek : K y
      · rw [if_pos (yes_t ek), if_pos (yes_t ek)]
        exact Mk_app_l (fun x hx e => hn x hx y ek (by rw [e, up y r]; exact List.prefix_append _ _))
      · rw [if_neg (by rw [yes_f ek]; simp), if_neg (by rw [yes_f ek]; simp)]
  refine ⟨by rw [e]; exact h.tre, h.root, fun y r => (h.there y r).trans ?_⟩
  constructor
  · rintro ⟨hk, x, hx, hp⟩; exact ⟨hk, x, List.mem_append.2 (.inl hx), hp⟩
  · rintro ⟨hk, x, hx, hp⟩
    rcases List.mem_append.1 hx with hx | hx
    · exact ⟨hk, x, hx, hp⟩
    · exact absurd ((by rw [up y r]; exact List.prefix_append _ _ : (z ++ [y]) <+: z ++ y :: r).trans hp) (hn x hx y hk)
end Go.Proofs.YtakmpmhjcngbbaaGreatDoor
