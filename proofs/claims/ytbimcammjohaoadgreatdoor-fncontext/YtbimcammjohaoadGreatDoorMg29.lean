import Derived.Test.YtbimcammjohaoadGreatDoorMg28
import Derived.Test.YtbimcammjohaoadGreatDoorMg16
namespace Go.Proofs.YtbimcammjohaoadGreatDoor
set_option linter.unusedVariables false
set_option linter.unusedSimpArgs false

def encR : List (Int × List (Int × Int)) → List Int
  | [] => []
  | p :: g => uvF 9 p.1.toNat ++ uvF 9 p.2.length ++ encS 1 p.2 ++ encR g

def okR : Int → Int → List (Int × List (Int × Int)) → Prop
  | _, _, [] => True
  | before, left, p :: g => before < p.1 ∧ 0 ≤ p.1 ∧ p.1 ≤ 7 ∧ p.2 ≠ [] ∧ (p.2.length : Int) ≤ left ∧ okS 1 p.2 ∧ okR p.1 (left - p.2.length) g
noncomputable def rdReps (f : Nat → Int) (n : Nat) : Nat → Int → Int → Nat → Option (List (Int × List (Int × Int)) × Nat)
  | 0, _, _, x => some ([], x)
  | k + 1, before, left, x =>
    (rd f n x 7).bind fun a =>
      if (a.1 : Int) ≤ before then none else
      (rd f n a.2 left).bind fun b =>
        if b.1 = 0 then none else
        (rdSpans f n b.1 1 b.2).bind fun c =>
          (rdReps f n k (a.1 : Int) (left - (b.1 : Int)) c.2).bind fun d => some (((a.1 : Int), c.1) :: d.1, d.2)

theorem rdReps_iff {f : Nat → Int} (hf : Byt f) {n : Nat} : ∀ (k : Nat) (before left : Int) (x : Nat) (g : List (Int × List (Int × Int))) (x' : Nat), left ≤ 1000 →
    (rdReps f n k before left x = some (g, x') ∧ x ≤ n ↔ g.length = k ∧ okR before left g ∧ At f x (encR g) ∧ x' = x + (encR g).length ∧ x' ≤ n) := by
  intro k
  induction k with
  | zero =>
    intro before left x g x' _
    cases g with
    | nil => simp [rdReps, encR, okR, At]; omega
    | cons p g => simp [rdReps]
  | succ k ih =>
    intro before left x g x' hleft
    constructor
    · rintro ⟨h, hxn⟩
      unfold rdReps at h
      obtain ⟨a, h1, h⟩ := Option.bind_eq_some_iff.1 h
      split at h
      · cases h
      · rename_i hab
        obtain ⟨b, h2, h⟩ := Option.bind_eq_some_iff.1 h
        split at h
        · cases h
        · rename_i hb0
          obtain ⟨c, h3, h⟩ := Option.bind_eq_some_iff.1 h
          obtain ⟨d, h4, h⟩ := Option.bind_eq_some_iff.1 h
          obtain ⟨rep, x1⟩ := a
          obtain ⟨cnt, x2⟩ := b
          obtain ⟨l, x3⟩ := c
          obtain ⟨g', x4⟩ := d
          simp only [Option.some.injEq, Prod.mk.injEq] at h
          obtain ⟨rfl, rfl⟩ := h
          dsimp only at h1 h2 h3 h4 hab hb0
          obtain ⟨s1, s2, s3, s4, s5⟩ := (rd_iff hf).1 h1
          obtain ⟨t1, t2, t3, t4, t5⟩ := (rd_iff hf).1 h2
          obtain ⟨u1, u2, u3, u4, u5⟩ := (rdSpans_iff hf cnt 1 x2 l x3 (by omega)).1 ⟨h3, t5⟩
          obtain ⟨v1, v2, v3, v4, v5⟩ := (ih rep (left - cnt) x3 g' x4 (by omega)).1 ⟨h4, u5⟩
          have hl0 : l ≠ [] := by intro e; subst e; simp at u1; omega
          refine ⟨by simp [v1], ⟨by show before < (rep : Int); omega, by show (0 : Int) ≤ (rep : Int); omega, by show (rep : Int) ≤ 7; omega, hl0, by show ((l.length : Nat) : Int) ≤ left; omega, u2, ?_⟩, ?_, ?_, v5⟩
          · show okR (rep : Int) (left - ((l.length : Nat) : Int)) g'
            rw [u1]; exact v2
          · show At f x (uvF 9 ((rep : Int)).toNat ++ uvF 9 l.length ++ encS 1 l ++ encR g')
            rw [Int.toNat_natCast, u1, At.app, At.app, At.app]
            simp only [List.length_append, ← Nat.add_assoc]
            rw [← s4, ← t4, ← u4]
            exact ⟨⟨⟨s3, t3⟩, u3⟩, v3⟩
          · show x4 = x + (uvF 9 ((rep : Int)).toNat ++ uvF 9 l.length ++ encS 1 l ++ encR g').length
            rw [Int.toNat_natCast, u1]
            simp only [List.length_append]
            rw [v4, u4, t4, s4]; omega
    · rintro ⟨h1, h2, h3, h4, h5⟩
      cases g with
      | nil => simp at h1
      | cons p g =>
        obtain ⟨r, l⟩ := p
        obtain ⟨o1, o2, o3, o4, o5, o6, o7⟩ := h2
        have o1' : before < r := o1
        have o2' : 0 ≤ r := o2
        have o3' : r ≤ 7 := o3
        have o4' : l ≠ [] := o4
        have o5' : ((l.length : Nat) : Int) ≤ left := o5
        have o7' : okR r (left - ((l.length : Nat) : Int)) g := o7
        have h3' : At f x (uvF 9 r.toNat ++ uvF 9 l.length ++ encS 1 l ++ encR g) := h3
        have h4' : x' = x + (uvF 9 r.toNat ++ uvF 9 l.length ++ encS 1 l ++ encR g).length := h4
        rw [At.app, At.app, At.app] at h3'
        simp only [List.length_append, ← Nat.add_assoc] at h3' h4'
        obtain ⟨⟨⟨a1, a2⟩, a3⟩, a4⟩ := h3'
        have hlen : 0 < l.length := List.length_pos_iff.2 o4'
        have b1 : rd f n x 7 = some (r.toNat, x + (uvF 9 r.toNat).length) := (rd_iff hf).2 ⟨by omega, by omega, a1, rfl, by omega⟩
        have b2 : rd f n (x + (uvF 9 r.toNat).length) left = some (l.length, x + (uvF 9 r.toNat).length + (uvF 9 l.length).length) := (rd_iff hf).2 ⟨by omega, by omega, a2, rfl, by omega⟩
        have b3 := ((rdSpans_iff (n := n) hf l.length 1 (x + (uvF 9 r.toNat).length + (uvF 9 l.length).length) l (x + (uvF 9 r.toNat).length + (uvF 9 l.length).length + (encS 1 l).length) (by omega)).2 ⟨rfl, o6, a3, rfl, by omega⟩).1
        have er : ((r.toNat : Nat) : Int) = r := by omega
        have b4 := ((ih r (left - ((l.length : Nat) : Int)) (x + (uvF 9 r.toNat).length + (uvF 9 l.length).length + (encS 1 l).length) g x' (by omega)).2 ⟨by simpa using h1, o7', a4, by omega, h5⟩).1
        refine ⟨?_, by omega⟩
        unfold rdReps
        rw [b1, Option.bind_some, if_neg (by show ¬ ((r.toNat : Nat) : Int) ≤ before; omega), b2, Option.bind_some, if_neg (by show ¬ l.length = 0; omega), b3, Option.bind_some]
        dsimp only
        rw [er, b4, Option.bind_some]

noncomputable def rdCtx (f : Nat → Int) (n x : Nat) : Option (List (Int × List (Int × Int)) × Nat) :=
  (rd f n x 8).bind fun a => rdReps f n a.1 (-1) 1000 a.2
def encC (g : List (Int × List (Int × Int))) : List Int := uvF 9 g.length ++ encR g
theorem okR_len : ∀ (g : List (Int × List (Int × Int))) (before left : Int), okR before left g → -1 ≤ before → before ≤ 7 → (g.length : Int) ≤ 7 - before := by
  intro g
  induction g with
  | nil => intro before left _ h1 h2; simp; omega
  | cons p g ih =>
    rintro before left ⟨o1, o2, o3, o4, o5, o6, o7⟩ h1 h2
    have := ih p.1 _ o7 (by omega) (by omega)
    simp only [List.length_cons]
    omega
theorem rdCtx_iff {f : Nat → Int} (hf : Byt f) {n x : Nat} (hx : x ≤ n) {g : List (Int × List (Int × Int))} {x' : Nat} :
    rdCtx f n x = some (g, x') ↔ okR (-1) 1000 g ∧ At f x (encC g) ∧ x' = x + (encC g).length ∧ x' ≤ n := by
  constructor
  · intro h
    obtain ⟨⟨cnt, x1⟩, h1, h2⟩ := Option.bind_eq_some_iff.1 h
    dsimp only at h2
    obtain ⟨s1, s2, s3, s4, s5⟩ := (rd_iff hf).1 h1
    obtain ⟨v1, v2, v3, v4, v5⟩ := (rdReps_iff hf cnt (-1) 1000 x1 g x' (by omega)).1 ⟨h2, s5⟩
    unfold encC
    rw [v1, At.app, List.length_append, ← s4]
    exact ⟨v2, ⟨s3, v3⟩, by omega, v5⟩
  · rintro ⟨h1, h2, h3, h4⟩
    unfold encC at h2 h3
    rw [At.app] at h2
    rw [List.length_append] at h3
    have hl := okR_len g (-1) 1000 h1 (by omega) (by omega)
    have b1 : rd f n x 8 = some (g.length, x + (uvF 9 g.length).length) := (rd_iff hf).2 ⟨by omega, by omega, h2.1, rfl, by omega⟩
    have b2 := ((rdReps_iff (n := n) hf g.length (-1) 1000 (x + (uvF 9 g.length).length) g x' (by omega)).2 ⟨rfl, h1, h2.2, by omega, h4⟩).1
    unfold rdCtx
    rw [b1, Option.bind_some]
    exact b2
end Go.Proofs.YtbimcammjohaoadGreatDoor

namespace Go.Proofs.YtbimcammjohaoadGreatDoor
set_option linter.unusedVariables false
set_option linter.unusedSimpArgs false

def endS : Int → List (Int × Int) → Int
  | least, [] => least
  | _, p :: l => endS (p.2 + 2) l
theorem endS_snoc (l : List (Int × Int)) (p : Int × Int) : ∀ least, endS least (l ++ [p]) = p.2 + 2 := by
  induction l with
  | nil => intro least; rfl
  | cons q l ih => intro least; exact ih _
theorem encS_snoc (l : List (Int × Int)) (p : Int × Int) : ∀ least, encS least (l ++ [p]) = encS least l ++ (uvF 9 (p.1 - endS least l).toNat ++ uvF 9 (p.2 - p.1).toNat) := by
  induction l with
  | nil => intro least; simp [encS, endS]
  | cons q l ih =>
    intro least
    show uvF 9 _ ++ uvF 9 _ ++ encS _ (l ++ [p]) = (uvF 9 _ ++ uvF 9 _ ++ encS _ l) ++ _
    rw [ih]
    simp only [List.append_assoc]
    rfl
theorem take_snoc {α : Type} (l : List α) (d : α) {k : Nat} (h : k < l.length) : l.take (k + 1) = l.take k ++ [l.getD k d] := by
  rw [List.take_add_one]; simp [List.getD, h]
theorem spK_enc (l : List (Int × Int)) : ∀ k, k ≤ l.length → spK l k = encS 1 (l.take k) ∧ loK l k = endS 1 (l.take k)
  | 0, _ => by simp [spK, encS, loK, endS]
  | k + 1, h => by
    obtain ⟨h1, h2⟩ := spK_enc l k (by omega)
    rw [take_snoc l (0, 0) (by omega), encS_snoc, endS_snoc]
    refine ⟨?_, rfl⟩
    simp only [spK]
    rw [h1, h2]
    rfl
theorem grpB_enc (l : List (Int × Int)) : grpB l = uvF 9 l.length ++ encS 1 l := by
  unfold grpB
  rw [(spK_enc l l.length (Nat.le_refl _)).1, List.take_length]
theorem encR_app (g g' : List (Int × List (Int × Int))) : encR (g ++ g') = encR g ++ encR g' := by
  induction g with
  | nil => rfl
  | cons p g ih =>
    show uvF 9 _ ++ uvF 9 _ ++ encS 1 _ ++ encR (g ++ g') = (uvF 9 _ ++ uvF 9 _ ++ encS 1 _ ++ encR g) ++ encR g'
    rw [ih]; simp only [List.append_assoc]
theorem putK_enc (L : Int → List (Int × Int)) (ks : List Int) : ∀ k, k ≤ ks.length → putK L ks k = encR ((ks.take k).map fun r => (r, L r))
  | 0, _ => by simp [putK, encR]
  | k + 1, h => by
    rw [take_snoc ks 0 (by omega), List.map_append, encR_app, ← putK_enc L ks k (by omega)]
    simp only [putK, repB, grpB_enc, List.map_cons, List.map_nil, encR, List.append_nil, List.append_assoc]
def grps (L : Int → List (Int × Int)) : List (Int × List (Int × Int)) := (KS L 8).map fun r => (r, L r)
theorem putB_enc (L : Int → List (Int × Int)) : putB L = encC (grps L) := by
  unfold putB encC
  rw [putK_enc L (KS L 8) _ (Nat.le_refl _), List.take_length]
  simp [grps]

theorem okS_srt : ∀ (l : List (Int × Int)) (least : Int), okS least l → 1 ≤ least → Srt l ∧ ∀ p ∈ l, least ≤ p.1
  | [], _, _, _ => ⟨⟨List.Pairwise.nil, fun p hp => by cases hp⟩, fun p hp => by cases hp⟩
  | q :: l, least, ⟨o1, o2, o3, o4⟩, h1 => by
    obtain ⟨i1, i2⟩ := okS_srt l (q.2 + 2) o4 (by omega)
    refine ⟨⟨List.pairwise_cons.2 ⟨fun p hp => by have := i2 p hp; omega, i1.1⟩, fun p hp => ?_⟩, fun p hp => ?_⟩
    · rcases List.mem_cons.1 hp with rfl | hp
      · exact ⟨by omega, o2, o3⟩
      · exact i1.2 p hp
    · rcases List.mem_cons.1 hp with rfl | hp
      · exact o1
      · have := i2 p hp; omega
theorem srt_okS : ∀ (l : List (Int × Int)) (least : Int), Srt l → (∀ p ∈ l, least ≤ p.1) → okS least l
  | [], _, _, _ => trivial
  | q :: l, least, h, h1 => by
    have hq := h.2 q List.mem_cons_self
    obtain ⟨c1, c2⟩ := List.pairwise_cons.1 h.1
    exact ⟨h1 q List.mem_cons_self, hq.2.1, hq.2.2, srt_okS l _ ⟨c2, fun p hp => h.2 p (List.mem_cons_of_mem _ hp)⟩ (fun p hp => by have := c1 p hp; omega)⟩

def flatG (g : List (Int × List (Int × Int))) : List Rn := g.flatMap fun p => tag p.1 p.2
theorem flatG_cons (p : Int × List (Int × Int)) (g : List (Int × List (Int × Int))) : flatG (p :: g) = tag p.1 p.2 ++ flatG g := by simp [flatG]
theorem flatG_grps (L : Int → List (Int × Int)) : flatG (grps L) = outF L 8 := by
  unfold flatG grps outF; rw [List.flatMap_map]
def lkG : List (Int × List (Int × Int)) → Int → List (Int × Int)
  | [], _ => []
  | p :: g, r => if p.1 = r then p.2 else lkG g r
theorem lkG_ok : ∀ (g : List (Int × List (Int × Int))) (before left : Int), okR before left g → ∀ r, Srt (lkG g r) ∧ (lkG g r ≠ [] → before < r ∧ 0 ≤ r ∧ r ≤ 7) ∧ (r ∈ g.map Prod.fst ↔ lkG g r ≠ [])
  | [], _, _, _, r => ⟨⟨List.Pairwise.nil, fun p hp => by cases hp⟩, fun h => absurd rfl h, by simp [lkG]⟩
  | p :: g, before, left, ⟨o1, o2, o3, o4, o5, o6, o7⟩, r => by
    obtain ⟨i1, i2, i3⟩ := lkG_ok g p.1 _ o7 r
    by_cases e : p.1 = r
    · have el : lkG (p :: g) r = p.2 := if_pos e
      rw [el]
      exact ⟨(okS_srt _ 1 o6 (by omega)).1, fun _ => by omega, by simp [e, o4]⟩
    · have el : lkG (p :: g) r = lkG g r := if_neg e
      rw [el]
      refine ⟨i1, fun h => by have := i2 h; omega, ?_⟩
      rw [List.map_cons, List.mem_cons, i3]
      constructor
      · rintro (h | h)
        · exact absurd h.symm e
        · exact h
      · exact .inr
theorem okR_rise : ∀ (g : List (Int × List (Int × Int))) (before left : Int), okR before left g → (g.map Prod.fst).Pairwise (fun x y => x < y) ∧ ∀ x ∈ g.map Prod.fst, before < x
  | [], _, _, _ => ⟨List.Pairwise.nil, fun x hx => by cases hx⟩
  | p :: g, before, left, ⟨o1, o2, o3, o4, o5, o6, o7⟩ => by
    obtain ⟨i1, i2⟩ := okR_rise g p.1 _ o7
    refine ⟨List.pairwise_cons.2 ⟨i2, i1⟩, fun x hx => ?_⟩
    rcases List.mem_cons.1 hx with rfl | hx
    · exact o1
    · have := i2 x hx; omega
theorem lt_uniq : ∀ (xs ys : List Int), xs.Pairwise (fun x y => x < y) → ys.Pairwise (fun x y => x < y) → (∀ x, x ∈ xs ↔ x ∈ ys) → xs = ys
  | [], [], _, _, _ => rfl
  | [], b :: s, _, _, h => by have := (h b).2 List.mem_cons_self; cases this
  | a :: t, [], _, _, h => by have := (h a).1 List.mem_cons_self; cases this
  | a :: t, b :: s, hx, hy, h => by
    obtain ⟨x1, x2⟩ := List.pairwise_cons.1 hx
    obtain ⟨y1, y2⟩ := List.pairwise_cons.1 hy
    have e : a = b := by
      rcases List.mem_cons.1 ((h a).1 List.mem_cons_self) with e | e
      · exact e
      · rcases List.mem_cons.1 ((h b).2 List.mem_cons_self) with e' | e'
        · exact e'.symm
        · have := x1 b e'; have := y1 a e; omega
    subst e
    congr 1
    refine lt_uniq t s x2 y2 (fun x => ⟨fun hm => ?_, fun hm => ?_⟩)
    · rcases List.mem_cons.1 ((h x).1 (List.mem_cons_of_mem _ hm)) with e | e
      · have := x1 x hm; omega
      · exact e
    · rcases List.mem_cons.1 ((h x).2 (List.mem_cons_of_mem _ hm)) with e | e
      · have := y1 x hm; omega
      · exact e
theorem lkG_at : ∀ (g : List (Int × List (Int × Int))) (before left : Int), okR before left g → (g.map Prod.fst).map (fun r => (r, lkG g r)) = g
  | [], _, _, _ => rfl
  | p :: g, before, left, ⟨o1, o2, o3, o4, o5, o6, o7⟩ => by
    have ih := lkG_at g p.1 _ o7
    have hr := (okR_rise g p.1 _ o7).2
    rw [List.map_cons, List.map_cons]
    have e : lkG (p :: g) p.1 = p.2 := if_pos rfl
    rw [e]
    congr 1
    refine Eq.trans (List.map_congr_left (fun r hm => ?_)) ih
    have : lkG (p :: g) r = lkG g r := if_neg (by have := hr r hm; omega)
    rw [this]
theorem grps_lkG {g : List (Int × List (Int × Int))} {left : Int} (h : okR (-1) left g) : grps (lkG g) = g := by
  have e : KS (lkG g) 8 = g.map Prod.fst := by
    refine lt_uniq _ _ (KS_lt _ 8) (okR_rise g _ _ h).1 (fun x => ?_)
    obtain ⟨_, i2, i3⟩ := lkG_ok g _ _ h x
    rw [KS_mem, i3]
    constructor
    · rintro ⟨_, _, c⟩ e; rw [e] at c; cases c
    · intro hne
      have := i2 hne
      exact ⟨by omega, by omega, by cases hl : lkG g x with | nil => exact absurd hl hne | cons _ _ => rfl⟩
  unfold grps
  rw [e]
  exact lkG_at g _ _ h
theorem flatG_len : ∀ (g : List (Int × List (Int × Int))) (before left : Int), okR before left g → 0 ≤ left → ((flatG g).length : Int) ≤ left
  | [], _, _, _, h0 => by simpa [flatG] using h0
  | p :: g, before, left, ⟨o1, o2, o3, o4, o5, o6, o7⟩, h0 => by
    have ih := flatG_len g p.1 _ o7 (by omega)
    rw [flatG_cons, List.length_append]
    simp only [tag, List.length_map] at *
    omega

def lR (l : List Rn) (i : Nat) : Int := (l.getD i (0, 0, 0)).1
def lF (l : List Rn) (i : Nat) : Int := (l.getD i (0, 0, 0)).2.1
def lT (l : List Rn) (i : Nat) : Int := (l.getD i (0, 0, 0)).2.2
theorem flat_list (l : List Rn) : flat (lR l) (lF l) (lT l) l.length = l := by
  refine List.ext_getElem (by simp [flat]) (fun i h1 h2 => ?_)
  simp [flat, lR, lF, lT, List.getD, h2]
theorem okTo_list {l : List Rn} (h : FSrt l) : okTo (lR l) (lF l) (lT l) l.length := by
  intro i hi
  have e : ∀ j, (hj : j < l.length) → l.getD j (0, 0, 0) = l[j] := fun j hj => by simp [List.getD, hj]
  refine ⟨?_, fun h0 => ?_⟩
  · have := h.2 _ (List.getElem_mem hi)
    rw [← e i hi] at this
    exact runOk_true this
  · have := List.pairwise_iff_getElem.1 h.1 (i - 1) i (by omega) hi (by omega)
    rw [← e i hi, ← e (i - 1) (by omega)] at this
    unfold apartB
    exact decide_eq_true this
theorem srt_inh {l : List (Int × Int)} (h : Srt l) (hne : l ≠ []) : ∃ x, In l x := by
  cases l with
  | nil => exact absurd rfl hne
  | cons p t => exact ⟨p.1, p, List.mem_cons_self, Int.le_refl _, (h.2 p List.mem_cons_self).2.1⟩
theorem srt_uniq {l l' : List (Int × Int)} (h : Srt l) (h' : Srt l') (he : ∀ x, In l x ↔ In l' x) : l = l' := by
  have := uniq (tag_srt h (Int.le_refl 0) (by omega)) (tag_srt h' (Int.le_refl 0) (by omega)) (fun r x => by rw [tag_in, tag_in, he])
  unfold tag at this
  have inj : ∀ (a b : List (Int × Int)), a.map (fun p => ((0 : Int), p.1, p.2)) = b.map (fun p => ((0 : Int), p.1, p.2)) → a = b := by
    intro a
    induction a with
    | nil => intro b hb; cases b with | nil => rfl | cons _ _ => simp at hb
    | cons p a ih =>
      intro b hb
      cases b with
      | nil => simp at hb
      | cons q b =>
        rw [List.map_cons, List.map_cons] at hb
        injection hb with h1 h2
        have e1 : p = q := by
          have h3 := congrArg (fun z : Rn => z.2.1) h1
          have h4 := congrArg (fun z : Rn => z.2.2) h1
          exact Prod.ext h3 h4
        rw [e1, ih b h2]
  exact inj _ _ this

theorem groups_ctx {g : List (Int × List (Int × Int))} (h : okR (-1) 1000 g) :
    ctxB (lR (flatG g)) (lF (flatG g)) (lT (flatG g)) (flatG g).length = true ∧ Lk (lR (flatG g)) (lF (flatG g)) (lT (flatG g)) (flatG g).length = lkG g ∧ putB (lkG g) = encC g ∧ outF (lkG g) 8 = flatG g := by
  have hS : ∀ r, Srt (lkG g r) := fun r => (lkG_ok g _ _ h r).1
  have hG := grps_lkG h
  have hO : outF (lkG g) 8 = flatG g := by rw [← flatG_grps, hG]
  have hF : FSrt (flatG g) := by rw [← hO]; exact (outF_ok hS 8 (Nat.le_refl _)).1
  have hT := okTo_list hF
  have hlen := flatG_len g _ _ h (by omega)
  refine ⟨ctxB_iff.2 ⟨hT, by omega⟩, funext fun r => ?_, by rw [putB_enc, hG], hO⟩
  refine srt_uniq (Lk_srt _ hT r).1 (hS r) (fun x => ?_)
  rw [← flat_in, flat_list, ← hO, (outF_ok hS 8 (Nat.le_refl _)).2.1]
  constructor
  · rintro ⟨_, _, h3⟩; exact h3
  · intro hi
    have := (lkG_ok g _ _ h r).2.1 (fun e => by rw [e] at hi; exact In_nil hi)
    exact ⟨by omega, by omega, hi⟩

theorem okR_of (L : Int → List (Int × Int)) : ∀ (ks : List Int) (before left : Int), ks.Pairwise (fun x y => x < y) → (∀ r ∈ ks, before < r ∧ 0 ≤ r ∧ r ≤ 7 ∧ L r ≠ [] ∧ Srt (L r)) → ((ks.flatMap fun r => tag r (L r)).length : Int) ≤ left → okR before left (ks.map fun r => (r, L r))
  | [], _, _, _, _, _ => trivial
  | k :: ks, before, left, hp, ha, hl => by
    obtain ⟨p1, p2⟩ := List.pairwise_cons.1 hp
    obtain ⟨a1, a2, a3, a4, a5⟩ := ha k List.mem_cons_self
    rw [List.flatMap_cons, List.length_append] at hl
    have ht : (tag k (L k)).length = (L k).length := by simp [tag]
    refine ⟨a1, a2, a3, a4, by show (((L k).length : Nat) : Int) ≤ left; omega, srt_okS _ _ a5 (fun p hp => (a5.2 p hp).1), okR_of L ks k _ p2 (fun r hr => ?_) ?_⟩
    · obtain ⟨_, b2, b3, b4, b5⟩ := ha r (List.mem_cons_of_mem _ hr)
      exact ⟨p1 r hr, b2, b3, b4, b5⟩
    · show _ ≤ left - (((L k).length : Nat) : Int); omega

theorem ctx_groups {R F T : Nat → Int} {n : Nat} (h : ctxB R F T n = true) : okR (-1) 1000 (grps (Lk R F T n)) ∧ encC (grps (Lk R F T n)) = putB (Lk R F T n) ∧ flatG (grps (Lk R F T n)) = flat R F T n := by
  obtain ⟨hT, hn⟩ := ctxB_iff.1 h
  have hS : ∀ r, Srt (Lk R F T n r) := fun r => (Lk_srt n hT r).1
  have hO : outF (Lk R F T n) 8 = flat R F T n := by
    refine uniq (outF_ok hS 8 (Nat.le_refl _)).1 (flat_srt n hT) (fun r x => ?_)
    rw [flat_in, (outF_ok hS 8 (Nat.le_refl _)).2.1]
    constructor
    · rintro ⟨_, _, h3⟩; exact h3
    · intro hi
      have := Lk_rep n hT r (fun e => by rw [e] at hi; exact In_nil hi)
      exact ⟨by omega, by omega, hi⟩
  refine ⟨okR_of _ _ _ _ (KS_lt _ 8) (fun r hr => ?_) ?_, (putB_enc _).symm, by rw [flatG_grps, hO]⟩
  · obtain ⟨k1, k2, k3⟩ := (KS_mem _ 8 r).1 hr
    exact ⟨by omega, by omega, by omega, (fun e => by rw [e] at k3; cases k3), hS r⟩
  · have : (outF (Lk R F T n) 8).length = n := by rw [hO]; simp [flat]
    unfold outF at this
    omega

noncomputable def ldSpans (f : Nat → Int) (n : Nat) (rep : Int) : Nat → Int → Nat → Option (List Rn × Nat)
  | 0, _, x => some ([], x)
  | k + 1, last, x => (rd f n x 1000000000).bind fun a => (rd f n a.2 1000000000).bind fun b =>
      (ldSpans f n rep k (last + 2 + (a.1 : Int) + (b.1 : Int)) b.2).bind fun c => some ((rep, last + 2 + (a.1 : Int), last + 2 + (a.1 : Int) + (b.1 : Int)) :: c.1, c.2)
noncomputable def ldReps (f : Nat → Int) (n : Nat) : Nat → Nat → Option (List Rn × Nat)
  | 0, x => some ([], x)
  | k + 1, x => (rd f n x 8).bind fun a => (rd f n a.2 1000).bind fun b => (ldSpans f n (a.1 : Int) b.1 (-1) b.2).bind fun c => (ldReps f n k c.2).bind fun d => some (c.1 ++ d.1, d.2)
noncomputable def ldCtx (f : Nat → Int) (n x : Nat) : Option (List Rn × Nat) := (rd f n x 8).bind fun a => ldReps f n a.1 a.2

theorem ldSpans_of {f : Nat → Int} (hf : Byt f) {n : Nat} (rep : Int) : ∀ (l : List (Int × Int)) (last : Int) (x : Nat), -1 ≤ last → okS (last + 2) l → At f x (encS (last + 2) l) → x + (encS (last + 2) l).length ≤ n →
    ldSpans f n rep l.length last x = some (tag rep l, x + (encS (last + 2) l).length)
  | [], last, x, _, _, _, _ => by simp [ldSpans, tag, encS]
  | p :: l, last, x, h0, ⟨o1, o2, o3, o4⟩, ha, hn => by
    have ha' : At f x (uvF 9 (p.1 - (last + 2)).toNat ++ uvF 9 (p.2 - p.1).toNat ++ encS (p.2 + 2) l) := ha
    have hn' : x + (uvF 9 (p.1 - (last + 2)).toNat ++ uvF 9 (p.2 - p.1).toNat ++ encS (p.2 + 2) l).length ≤ n := hn
    rw [At.app, At.app] at ha'
    simp only [List.length_append, ← Nat.add_assoc] at ha' hn'
    obtain ⟨⟨a1, a2⟩, a3⟩ := ha'
    have b1 : rd f n x 1000000000 = some ((p.1 - (last + 2)).toNat, x + (uvF 9 (p.1 - (last + 2)).toNat).length) := (rd_iff hf).2 ⟨by omega, by omega, a1, rfl, by omega⟩
    have b2 : rd f n (x + (uvF 9 (p.1 - (last + 2)).toNat).length) 1000000000 = some ((p.2 - p.1).toNat, x + (uvF 9 (p.1 - (last + 2)).toNat).length + (uvF 9 (p.2 - p.1).toNat).length) := (rd_iff hf).2 ⟨by omega, by omega, a2, rfl, by omega⟩
    have b3 := ldSpans_of hf (n := n) rep l p.2 (x + (uvF 9 (p.1 - (last + 2)).toNat).length + (uvF 9 (p.2 - p.1).toNat).length) (by omega) o4 a3 (by omega)
    have e1 : last + 2 + (((p.1 - (last + 2)).toNat : Nat) : Int) = p.1 := by omega
    have e2 : p.1 + (((p.2 - p.1).toNat : Nat) : Int) = p.2 := by omega
    show ldSpans f n rep (l.length + 1) last x = _
    unfold ldSpans
    rw [b1, Option.bind_some]
    dsimp only
    rw [b2, Option.bind_some]
    dsimp only
    rw [e1, e2, b3, Option.bind_some]
    have e3 : x + (encS (last + 2) (p :: l)).length = x + (uvF 9 (p.1 - (last + 2)).toNat).length + (uvF 9 (p.2 - p.1).toNat).length + (encS (p.2 + 2) l).length := by
      show x + (uvF 9 (p.1 - (last + 2)).toNat ++ uvF 9 (p.2 - p.1).toNat ++ encS (p.2 + 2) l).length = _
      simp only [List.length_append]; omega
    rw [e3]
    simp [tag]
theorem ldReps_of {f : Nat → Int} (hf : Byt f) {n : Nat} : ∀ (g : List (Int × List (Int × Int))) (before left : Int) (x : Nat), left ≤ 1000 → okR before left g → At f x (encR g) → x + (encR g).length ≤ n →
    ldReps f n g.length x = some (flatG g, x + (encR g).length)
  | [], _, _, x, _, _, _, _ => by simp [ldReps, flatG, encR]
  | p :: g, before, left, x, hl, ⟨o1, o2, o3, o4, o5, o6, o7⟩, ha, hn => by
    have ha' : At f x (uvF 9 p.1.toNat ++ uvF 9 p.2.length ++ encS 1 p.2 ++ encR g) := ha
    have hn' : x + (uvF 9 p.1.toNat ++ uvF 9 p.2.length ++ encS 1 p.2 ++ encR g).length ≤ n := hn
    rw [At.app, At.app, At.app] at ha'
    simp only [List.length_append, ← Nat.add_assoc] at ha' hn'
    obtain ⟨⟨⟨a1, a2⟩, a3⟩, a4⟩ := ha'
    have b1 : rd f n x 8 = some (p.1.toNat, x + (uvF 9 p.1.toNat).length) := (rd_iff hf).2 ⟨by omega, by omega, a1, rfl, by omega⟩
    have b2 : rd f n (x + (uvF 9 p.1.toNat).length) 1000 = some (p.2.length, x + (uvF 9 p.1.toNat).length + (uvF 9 p.2.length).length) := (rd_iff hf).2 ⟨by omega, by omega, a2, rfl, by omega⟩
    have b3 := ldSpans_of hf (n := n) p.1 p.2 (-1) (x + (uvF 9 p.1.toNat).length + (uvF 9 p.2.length).length) (by omega) o6 a3 (by show _ + (encS 1 p.2).length ≤ n; omega)
    have b4 := ldReps_of hf (n := n) g p.1 (left - p.2.length) (x + (uvF 9 p.1.toNat).length + (uvF 9 p.2.length).length + (encS 1 p.2).length) (by omega) o7 a4 (by omega)
    have er : ((p.1.toNat : Nat) : Int) = p.1 := by omega
    show ldReps f n (g.length + 1) x = _
    unfold ldReps
    rw [b1, Option.bind_some]
    dsimp only
    rw [b2, Option.bind_some]
    dsimp only
    rw [er, b3, Option.bind_some]
    dsimp only
    rw [show (-1 : Int) + 2 = 1 from rfl, b4, Option.bind_some]
    have e3 : x + (encR (p :: g)).length = x + (uvF 9 p.1.toNat).length + (uvF 9 p.2.length).length + (encS 1 p.2).length + (encR g).length := by
      show x + (uvF 9 p.1.toNat ++ uvF 9 p.2.length ++ encS 1 p.2 ++ encR g).length = _
      simp only [List.length_append]; omega
    rw [e3, flatG_cons]
theorem ldCtx_of {f : Nat → Int} (hf : Byt f) {n x x' : Nat} (hx : x ≤ n) {g : List (Int × List (Int × Int))} (h : rdCtx f n x = some (g, x')) : ldCtx f n x = some (flatG g, x') := by
  obtain ⟨h1, h2, h3, h4⟩ := (rdCtx_iff hf hx).1 h
  unfold encC at h2 h3
  rw [At.app] at h2
  rw [List.length_append] at h3
  have hl := okR_len g (-1) 1000 h1 (by omega) (by omega)
  have b1 : rd f n x 8 = some (g.length, x + (uvF 9 g.length).length) := (rd_iff hf).2 ⟨by omega, by omega, h2.1, rfl, by omega⟩
  unfold ldCtx
  rw [b1, Option.bind_some]
  dsimp only
  rw [ldReps_of hf g (-1) 1000 _ (by omega) h1 h2.2 (by omega), h3, Nat.add_assoc]

theorem rdCtx_of {f : Nat → Int} (hf : Byt f) {n x x' : Nat} (hx : x ≤ n) (hx' : x' ≤ n) {l : List Rn} (hv : ctxB (lR l) (lF l) (lT l) l.length = true)
    (hb : At f x (putB (Lk (lR l) (lF l) (lT l) l.length))) (hl : x' = x + (putB (Lk (lR l) (lF l) (lT l) l.length)).length) : ∃ g, rdCtx f n x = some (g, x') := by
  obtain ⟨o1, o2, o3⟩ := ctx_groups hv
  exact ⟨_, (rdCtx_iff hf hx).2 ⟨o1, by rw [o2]; exact hb, by rw [o2]; exact hl, hx'⟩⟩
end Go.Proofs.YtbimcammjohaoadGreatDoor
