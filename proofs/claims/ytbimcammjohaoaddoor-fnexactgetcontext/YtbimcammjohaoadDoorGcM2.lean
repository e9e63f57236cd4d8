import Derived.Test.YtbimcammjohaoadDoorGcM
namespace Go.Proofs.YtbimcammjohaoadDoor
set_option linter.unusedVariables false
set_option linter.unusedSimpArgs false

def encR : List (Int × List (Int × Int)) → List Int
  | [] => []
  | p :: g => uvF 9 p.1.toNat ++ uvF 9 p.2.length ++ encS 1 p.2 ++ encR g

def okR : Int → Int → List (Int × List (Int × Int)) → Prop
  | _, _, [] => True
  | before, left, p :: g => before < p.1 ∧ 0 ≤ p.1 ∧ p.1 ≤ 7 ∧ p.2 ≠ [] ∧ (p.2.length : Int) ≤ left ∧ okS 1 p.2 ∧ okR p.1 (left - p.2.length) g
noncomputable def rdReps (f : Nat → Int) (n : Nat) : Nat → Int → Int → Nat → Option (List (Int × List (Int × Int)) × Nat)
  | 0, _, _, x => some ([], x)
  | k + 1, before, left, x =>
    (rd f n x 7).bind fun a =>
      if (a.1 : Int) ≤ before then none else
      (rd f n a.2 left).bind fun b =>
        if b.1 = 0 then none else
        (rdSpans f n b.1 1 b.2).bind fun c =>
          (rdReps f n k (a.1 : Int) (left - (b.1 : Int)) c.2).bind fun d => some (((a.1 : Int), c.1) :: d.1, d.2)

theorem rdReps_iff {f : Nat → Int} (hf : Byt f) {n : Nat} : ∀ (k : Nat) (before left : Int) (x : Nat) (g : List (Int × List (Int × Int))) (x' : Nat), left ≤ 1000 →
    (rdReps f n k before left x = some (g, x') ∧ x ≤ n ↔ g.length = k ∧ okR before left g ∧ At f x (encR g) ∧ x' = x + (encR g).length ∧ x' ≤ n) := by
  intro k
  induction k with
  | zero =>
    intro before left x g x' _
    cases g with
    | nil => simp [rdReps, encR, okR, At]; omega
    | cons p g => simp [rdReps]
  | succ k ih =>
    intro before left x g x' hleft
    constructor
    · rintro ⟨h, hxn⟩
      unfold rdReps at h
      obtain ⟨a, h1, h⟩ := Option.bind_eq_some_iff.1 h
      split at h
      · cases h
      · rename_i hab
        obtain ⟨b, h2, h⟩ := Option.bind_eq_some_iff.1 h
        split at h
        · cases h
        · rename_i hb0
          obtain ⟨c, h3, h⟩ := Option.bind_eq_some_iff.1 h
          obtain ⟨d, h4, h⟩ := Option.bind_eq_some_iff.1 h
          obtain ⟨rep, x1⟩ := a
          obtain ⟨cnt, x2⟩ := b
          obtain ⟨l, x3⟩ := c
          obtain ⟨g', x4⟩ := d
          simp only [Option.some.injEq, Prod.mk.injEq] at h
          obtain ⟨rfl, rfl⟩ := h
          dsimp only at h1 h2 h3 h4 hab hb0
          obtain ⟨s1, s2, s3, s4, s5⟩ := (rd_iff hf).1 h1
          obtain ⟨t1, t2, t3, t4, t5⟩ := (rd_iff hf).1 h2
          obtain ⟨u1, u2, u3, u4, u5⟩ := (rdSpans_iff hf cnt 1 x2 l x3 (by omega)).1 ⟨h3, t5⟩
          obtain ⟨v1, v2, v3, v4, v5⟩ := (ih rep (left - cnt) x3 g' x4 (by omega)).1 ⟨h4, u5⟩
          have hl0 : l ≠ [] := by intro e; subst e; simp at u1; omega
          refine ⟨by simp [v1], ⟨by show before < (rep : Int); omega, by show (0 : Int) ≤ (rep : Int); omega, by show (rep : Int) ≤ 7; omega, hl0, by show ((l.length : Nat) : Int) ≤ left; omega, u2, ?_⟩, ?_, ?_, v5⟩
          · show okR (rep : Int) (left - ((l.length : Nat) : Int)) g'
            rw [u1]; exact v2
          · show At f x (uvF 9 ((rep : Int)).toNat ++ uvF 9 l.length ++ encS 1 l ++ encR g')
            rw [Int.toNat_natCast, u1, At.app, At.app, At.app]
            simp only [List.length_append, ← Nat.add_assoc]
            rw [← s4, ← t4, ← u4]
            exact ⟨⟨⟨s3, t3⟩, u3⟩, v3⟩
          · show x4 = x + (uvF 9 ((rep : Int)).toNat ++ uvF 9 l.length ++ encS 1 l ++ encR g').length
            rw [Int.toNat_natCast, u1]
            simp only [List.length_append]
            rw [v4, u4, t4, s4]; omega
    · rintro ⟨h1, h2, h3, h4, h5⟩
      cases g with
      | nil => simp at h1
      | cons p g =>
        obtain ⟨r, l⟩ := p
        obtain ⟨o1, o2, o3, o4, o5, o6, o7⟩ := h2
        have o1' : before < r := o1
        have o2' : 0 ≤ r := o2
        have o3' : r ≤ 7 := o3
        have o4' : l ≠ [] := o4
        have o5' : ((l.length : Nat) : Int) ≤ left := o5
        have o7' : okR r (left - ((l.length : Nat) : Int)) g := o7
        have h3' : At f x (uvF 9 r.toNat ++ uvF 9 l.length ++ encS 1 l ++ encR g) := h3
        have h4' : x' = x + (uvF 9 r.toNat ++ uvF 9 l.length ++ encS 1 l ++ encR g).length := h4
        rw [At.app, At.app, At.app] at h3'
        simp only [List.length_append, ← Nat.add_assoc] at h3' h4'
        obtain ⟨⟨⟨a1, a2⟩, a3⟩, a4⟩ := h3'
        have hlen : 0 < l.length := List.length_pos_iff.2 o4'
        have b1 : rd f n x 7 = some (r.toNat, x + (uvF 9 r.toNat).length) := (rd_iff hf).2 ⟨by omega, by omega, a1, rfl, by omega⟩
        have b2 : rd f n (x + (uvF 9 r.toNat).length) left = some (l.length, x + (uvF 9 r.toNat).length + (uvF 9 l.length).length) := (rd_iff hf).2 ⟨by omega, by omega, a2, rfl, by omega⟩
        have b3 := ((rdSpans_iff (n := n) hf l.length 1 (x + (uvF 9 r.toNat).length + (uvF 9 l.length).length) l (x + (uvF 9 r.toNat).length + (uvF 9 l.length).length + (encS 1 l).length) (by omega)).2 ⟨rfl, o6, a3, rfl, by omega⟩).1
        have er : ((r.toNat : Nat) : Int) = r := by omega
        have b4 := ((ih r (left - ((l.length : Nat) : Int)) (x + (uvF 9 r.toNat).length + (uvF 9 l.length).length + (encS 1 l).length) g x' (by omega)).2 ⟨by simpa using h1, o7', a4, by omega, h5⟩).1
        refine ⟨?_, by omega⟩
        unfold rdReps
        rw [b1, Option.bind_some, if_neg (by show ¬ ((r.toNat : Nat) : Int) ≤ before; omega), b2, Option.bind_some, if_neg (by show ¬ l.length = 0; omega), b3, Option.bind_some]
        dsimp only
        rw [er, b4, Option.bind_some]

noncomputable def rdCtx (f : Nat → Int) (n x : Nat) : Option (List (Int × List (Int × Int)) × Nat) :=
  (rd f n x 8).bind fun a => rdReps f n a.1 (-1) 1000 a.2
def encC (g : List (Int × List (Int × Int))) : List Int := uvF 9 g.length ++ encR g
theorem okR_len : ∀ (g : List (Int × List (Int × Int))) (before left : Int), okR before left g → -1 ≤ before → before ≤ 7 → (g.length : Int) ≤ 7 - before := by
  intro g
  induction g with
  | nil => intro before left _ h1 h2; simp; omega
  | cons p g ih =>
    rintro before left ⟨o1, o2, o3, o4, o5, o6, o7⟩ h1 h2
    have := ih p.1 _ o7 (by omega) (by omega)
    simp only [List.length_cons]
    omega
theorem rdCtx_iff {f : Nat → Int} (hf : Byt f) {n x : Nat} (hx : x ≤ n) {g : List (Int × List (Int × Int))} {x' : Nat} :
    rdCtx f n x = some (g, x') ↔ okR (-1) 1000 g ∧ At f x (encC g) ∧ x' = x + (encC g).length ∧ x' ≤ n := by
  constructor
  · intro h
    obtain ⟨⟨cnt, x1⟩, h1, h2⟩ := Option.bind_eq_some_iff.1 h
    dsimp only at h2
    obtain ⟨s1, s2, s3, s4, s5⟩ := (rd_iff hf).1 h1
    obtain ⟨v1, v2, v3, v4, v5⟩ := (rdReps_iff hf cnt (-1) 1000 x1 g x' (by omega)).1 ⟨h2, s5⟩
    unfold encC
    rw [v1, At.app, List.length_append, ← s4]
    exact ⟨v2, ⟨s3, v3⟩, by omega, v5⟩
  · rintro ⟨h1, h2, h3, h4⟩
    unfold encC at h2 h3
    rw [At.app] at h2
    rw [List.length_append] at h3
    have hl := okR_len g (-1) 1000 h1 (by omega) (by omega)
    have b1 : rd f n x 8 = some (g.length, x + (uvF 9 g.length).length) := (rd_iff hf).2 ⟨by omega, by omega, h2.1, rfl, by omega⟩
    have b2 := ((rdReps_iff (n := n) hf g.length (-1) 1000 (x + (uvF 9 g.length).length) g x' (by omega)).2 ⟨rfl, h1, h2.2, by omega, h4⟩).1
    unfold rdCtx
    rw [b1, Option.bind_some]
    exact b2
end Go.Proofs.YtbimcammjohaoadDoor
