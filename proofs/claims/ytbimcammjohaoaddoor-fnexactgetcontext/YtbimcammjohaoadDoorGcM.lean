import Derived.Test.YtbimcammjohaoadDoorUvm
namespace Go.Proofs.YtbimcammjohaoadDoor
set_option linter.unusedVariables false
set_option linter.unusedSimpArgs false

noncomputable def cN (f : Nat → Int) (n p : Nat) : Nat := (cnt_ex f n p).choose
theorem cN_spec (f : Nat → Int) (n p : Nat) : Cnt f n p (cN f n p) := (cnt_ex f n p).choose_spec

noncomputable def rd (f : Nat → Int) (n x : Nat) (most : Int) : Option (Nat × Nat) :=
  if (gX f n (cN f n x) (x : Int)).2.2 = 0 ∧ ((gX f n (cN f n x) (x : Int)).1 : Int) ≤ most then some ((gX f n (cN f n x) (x : Int)).1, (gX f n (cN f n x) (x : Int)).2.1.toNat) else none

theorem at_range {f : Nat → Int} {x : Nat} {U : List Int} {m : Nat} (h : U = (List.range m).map (fun i => f (x + i))) : At f x U := by
  intro i hi
  subst h
  have hi' : i < m := by simpa using hi
  simp [List.getD, hi']

theorem rd_iff {f : Nat → Int} (hf : Byt f) {n x : Nat} {most : Int} {V x' : Nat} :
    rd f n x most = some (V, x') ↔ V < 18446744073709551616 ∧ (V : Int) ≤ most ∧ At f x (uvF 9 V) ∧ x' = x + (uvF 9 V).length ∧ x' ≤ n := by
  constructor
  · intro h
    unfold rd at h
    split at h
    · rename_i hc
      injection h with h
      injection h with h1 h2
      obtain ⟨p, hp, hpn, h64, hA, hU⟩ := gX_zero hf (by simpa using cN_spec f n x) hc.1
      have hpx : p = x := by omega
      subst hpx
      rw [h1] at h64 hU hc
      have hl : (uvF 9 V).length = cN f n p + 1 := by rw [hU]; simp
      refine ⟨h64, hc.2, at_range hU, ?_, ?_⟩
      · rw [← h2, hA, hl]; simp; omega
      · rw [← h2, hA]; simp; omega
    · cases h
  · rintro ⟨h64, hm, hat, rfl, hn⟩
    have hg := gX_put h64 hat hn (cN_spec f n x)
    unfold rd
    rw [hg]
    simp [hm]
    omega

def encS : Int → List (Int × Int) → List Int
  | _, [] => []
  | least, p :: l => uvF 9 (p.1 - least).toNat ++ uvF 9 (p.2 - p.1).toNat ++ encS (p.2 + 2) l

def okS : Int → List (Int × Int) → Prop
  | _, [] => True
  | least, p :: l => least ≤ p.1 ∧ p.1 ≤ p.2 ∧ p.2 ≤ 1000000000 ∧ okS (p.2 + 2) l
noncomputable def rdSpans (f : Nat → Int) (n : Nat) : Nat → Int → Nat → Option (List (Int × Int) × Nat)
  | 0, _, x => some ([], x)
  | k + 1, least, x => do
    let (skip, x1) ← rd f n x (1000000000 - least)
    let (more, x2) ← rd f n x1 (1000000000 - (least + skip))
    let (l, x3) ← rdSpans f n k (least + skip + more + 2) x2
    some ((least + (skip : Int), least + (skip : Int) + (more : Int)) :: l, x3)

theorem At.app {f : Nat → Int} {x : Nat} {U W : List Int} : At f x (U ++ W) ↔ At f x U ∧ At f (x + U.length) W := by
  constructor
  · intro h
    refine ⟨fun i hi => ?_, fun i hi => ?_⟩
    · have := h i (by simp; omega)
      rw [this, getD_app_left hi]
    · have := h (U.length + i) (by simp; omega)
      rw [Nat.add_assoc, this]
      simp [List.getD, List.getElem?_append_right]
  · rintro ⟨h1, h2⟩ i hi
    by_cases hu : i < U.length
    · rw [h1 i hu, getD_app_left hu]
    · have := h2 (i - U.length) (by simp at hi; omega)
      rw [show x + U.length + (i - U.length) = x + i from by omega] at this
      rw [this]
      simp [List.getD, List.getElem?_append_right (show U.length ≤ i by omega)]

theorem rdSpans_iff {f : Nat → Int} (hf : Byt f) {n : Nat} : ∀ (k : Nat) (least : Int) (x : Nat) (l : List (Int × Int)) (x' : Nat), 0 ≤ least →
    (rdSpans f n k least x = some (l, x') ∧ x ≤ n ↔ l.length = k ∧ okS least l ∧ At f x (encS least l) ∧ x' = x + (encS least l).length ∧ x' ≤ n) := by
  intro k
  induction k with
  | zero =>
    intro least x l x' _
    cases l with
    | nil => simp [rdSpans, encS, okS, At]; omega
    | cons p l => simp [rdSpans]
  | succ k ih =>
    intro least x l x' hl
    cases l with
    | nil =>
      simp only [List.length_nil]
      constructor
      · rintro ⟨h, _⟩
        exfalso
        unfold rdSpans at h
        cases h1 : rd f n x (1000000000 - least) with
        | none => rw [h1] at h; simp at h
        | some a =>
          rw [h1] at h
          simp only [Option.bind_eq_bind, Option.bind_some] at h
          cases h2 : rd f n a.2 (1000000000 - (least + a.1)) with
          | none => rw [h2] at h; simp at h
          | some b =>
            rw [h2] at h
            simp only [Option.bind_some] at h
            cases h3 : rdSpans f n k (least + a.1 + b.1 + 2) b.2 with
            | none => rw [h3] at h; simp at h
            | some c => rw [h3] at h; simp at h
      · rintro ⟨h, _⟩; omega
    | cons p l =>
      obtain ⟨pf, pt⟩ := p
      constructor
      · rintro ⟨h, hxn⟩
        unfold rdSpans at h
        cases h1 : rd f n x (1000000000 - least) with
        | none => rw [h1] at h; simp at h
        | some a =>
          obtain ⟨skip, x1⟩ := a
          rw [h1] at h
          simp only [Option.bind_eq_bind, Option.bind_some] at h
          cases h2 : rd f n x1 (1000000000 - (least + skip)) with
          | none => rw [h2] at h; simp at h
          | some b =>
            obtain ⟨more, x2⟩ := b
            rw [h2] at h
            simp only [Option.bind_some] at h
            cases h3 : rdSpans f n k (least + skip + more + 2) x2 with
            | none => rw [h3] at h; simp at h
            | some c =>
              obtain ⟨l', x3⟩ := c
              rw [h3] at h
              simp only [Option.bind_some, Option.some.injEq, Prod.mk.injEq, List.cons.injEq] at h
              obtain ⟨⟨⟨e1, e2⟩, rfl⟩, rfl⟩ := h
              obtain ⟨s1, s2, s3, s4, s5⟩ := (rd_iff hf).1 h1
              obtain ⟨t1, t2, t3, t4, t5⟩ := (rd_iff hf).1 h2
              obtain ⟨u1, u2, u3, u4, u5⟩ := (ih (least + skip + more + 2) x2 l' x3 (by omega)).1 ⟨h3, t5⟩
              subst e1 e2
              have q1 : (least + (skip : Int) - least).toNat = skip := by omega
              have q2 : (least + (skip : Int) + (more : Int) - (least + (skip : Int))).toNat = more := by omega
              refine ⟨by simp [u1], ⟨by show least ≤ least + (skip : Int); omega, by show least + (skip : Int) ≤ _; omega, by show least + (skip : Int) + (more : Int) ≤ _; omega, u2⟩, ?_, ?_, u5⟩
              · show At f x (uvF 9 _ ++ uvF 9 _ ++ encS _ l')
                simp only [q1, q2]
                rw [At.app, At.app]
                refine ⟨⟨s3, by rw [← s4]; exact t3⟩, ?_⟩
                rw [List.length_append, ← Nat.add_assoc, ← s4, ← t4]
                exact u3
              · show x3 = x + (uvF 9 _ ++ uvF 9 _ ++ encS _ l').length
                simp only [q1, q2, List.length_append]
                rw [u4, t4, s4]; omega
      · rintro ⟨h1, ⟨o1, o2, o3, o4⟩, h3, h4, h5⟩
        have o1' : least ≤ pf := o1
        have o2' : pf ≤ pt := o2
        have o3' : pt ≤ 1000000000 := o3
        have h3' : At f x (uvF 9 (pf - least).toNat ++ uvF 9 (pt - pf).toNat ++ encS (pt + 2) l) := h3
        have h4' : x' = x + (uvF 9 (pf - least).toNat ++ uvF 9 (pt - pf).toNat ++ encS (pt + 2) l).length := h4
        rw [At.app, At.app] at h3'
        rw [List.length_append, List.length_append] at h4'
        obtain ⟨⟨a1, a2⟩, a3⟩ := h3'
        rw [List.length_append, ← Nat.add_assoc] at a3
        have b1 : rd f n x (1000000000 - least) = some ((pf - least).toNat, x + (uvF 9 (pf - least).toNat).length) := (rd_iff hf).2 ⟨by omega, by omega, a1, rfl, by omega⟩
        have e1 : least + (((pf - least).toNat : Nat) : Int) = pf := by omega
        have b2 : rd f n (x + (uvF 9 (pf - least).toNat).length) (1000000000 - (least + (((pf - least).toNat : Nat) : Int))) = some ((pt - pf).toNat, x + (uvF 9 (pf - least).toNat).length + (uvF 9 (pt - pf).toNat).length) := (rd_iff hf).2 ⟨by omega, by omega, a2, rfl, by omega⟩
        have e2 : least + (((pf - least).toNat : Nat) : Int) + (((pt - pf).toNat : Nat) : Int) = pt := by omega
        have b3 := ((ih (pt + 2) (x + (uvF 9 (pf - least).toNat).length + (uvF 9 (pt - pf).toNat).length) l x' (by omega)).2 ⟨by simpa using h1, o4, a3, by omega, h5⟩).1
        refine ⟨?_, by omega⟩
        unfold rdSpans
        rw [b1]
        simp only [Option.bind_eq_bind, Option.bind_some]
        rw [b2]
        simp only [Option.bind_some, e2]
        rw [b3]
        simp only [Option.bind_some, e1, e2]
end Go.Proofs.YtbimcammjohaoadDoor
