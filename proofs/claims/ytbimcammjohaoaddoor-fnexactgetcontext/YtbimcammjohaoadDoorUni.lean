import Derived.Test.YtbimcammjohaoadDoorL2
namespace Go.Proofs.YtbimcammjohaoadDoor
open Go.ChangeShapes Go.WideShapes Go.ChangeAt Go.RowKit Go.Maps Go.Sort
set_option linter.unusedVariables false
set_option linter.unusedSimpArgs false

abbrev Rn := Int × Int × Int
def Apt (p q : Rn) : Prop := p.1 < q.1 ∨ (p.1 = q.1 ∧ p.2.2 + 1 < q.2.1)
instance (p q : Rn) : Decidable (Apt p q) := by unfold Apt; infer_instance
def Rok (p : Rn) : Prop := 0 ≤ p.1 ∧ p.1 < 8 ∧ 1 ≤ p.2.1 ∧ p.2.1 ≤ p.2.2 ∧ p.2.2 ≤ 1000000000
def FSrt (l : List Rn) : Prop := l.Pairwise Apt ∧ ∀ p ∈ l, Rok p
def InR (p : Rn) (r x : Int) : Prop := p.1 = r ∧ p.2.1 ≤ x ∧ x ≤ p.2.2
def RI (l : List Rn) (r x : Int) : Prop := ∃ p ∈ l, InR p r x

theorem Apt.trans {p q s : Rn} (h1 : Apt p q) (hq : Rok q) (h2 : Apt q s) : Apt p s := by
  unfold Apt Rok at *; omega
theorem RI_cons {p : Rn} {l : List Rn} {r x : Int} : RI (p :: l) r x ↔ InR p r x ∨ RI l r x := by simp [RI]
theorem RI_append {l l' : List Rn} {r x : Int} : RI (l ++ l') r x ↔ RI l r x ∨ RI l' r x := by
  constructor
  · rintro ⟨p, hp, h⟩
    rcases List.mem_append.1 hp with hp | hp
    · exact .inl ⟨p, hp, h⟩
    · exact .inr ⟨p, hp, h⟩
  · rintro (⟨p, hp, h⟩ | ⟨p, hp, h⟩)
    · exact ⟨p, List.mem_append.2 (.inl hp), h⟩
    · exact ⟨p, List.mem_append.2 (.inr hp), h⟩
theorem RI_one {p : Rn} {r x : Int} : RI [p] r x ↔ InR p r x := by simp [RI]
theorem RI_nil {r x : Int} : ¬ RI [] r x := by simp [RI]

theorem first_le {p q : Rn} {l : List Rn} (h : FSrt (p :: l)) (hq : q ∈ p :: l) : p.1 < q.1 ∨ (p.1 = q.1 ∧ p.2.1 ≤ q.2.1) := by
  rcases List.mem_cons.1 hq with rfl | hq
  · exact .inr ⟨rfl, Int.le_refl _⟩
  · have h1 := (List.pairwise_cons.1 h.1).1 q hq
    have h2 := h.2 p (List.mem_cons_self)
    unfold Apt Rok at *; omega

theorem uniq_to {p p' : Rn} {t t' : List Rn} (h : FSrt (p :: t)) (h' : FSrt (p' :: t')) (he : ∀ r x, RI (p :: t) r x → RI (p' :: t') r x) (hf : p.1 = p'.1 ∧ p.2.1 = p'.2.1) : p.2.2 ≤ p'.2.2 := by
  have ok := h.2 p List.mem_cons_self
  have ok' := h'.2 p' List.mem_cons_self
  rcases Int.lt_or_le p'.2.2 p.2.2 with hlt | hle
  · exfalso
    have hin : RI (p :: t) p.1 (p'.2.2 + 1) := ⟨p, List.mem_cons_self, rfl, by unfold Rok at *; omega, by omega⟩
    obtain ⟨q, hq, e1, e2, e3⟩ := he _ _ hin
    rcases List.mem_cons.1 hq with rfl | hq
    · omega
    · have := (List.pairwise_cons.1 h'.1).1 q hq
      unfold Apt at this; omega
  · exact hle

theorem uniq : ∀ {l l' : List Rn}, FSrt l → FSrt l' → (∀ r x, RI l r x ↔ RI l' r x) → l = l'
  | [], [], _, _, _ => rfl
  | [], p' :: t', _, h', he => by
    have ok' := h'.2 p' List.mem_cons_self
    exact absurd ((he p'.1 p'.2.1).2 ⟨p', List.mem_cons_self, rfl, Int.le_refl _, ok'.2.2.2.1⟩) RI_nil
  | p :: t, [], h, _, he => by
    have ok := h.2 p List.mem_cons_self
    exact absurd ((he p.1 p.2.1).1 ⟨p, List.mem_cons_self, rfl, Int.le_refl _, ok.2.2.2.1⟩) RI_nil
  | p :: t, p' :: t', h, h', he => by
    have ok := h.2 p List.mem_cons_self
    have ok' := h'.2 p' List.mem_cons_self
    have hf : p.1 = p'.1 ∧ p.2.1 = p'.2.1 := by
      obtain ⟨q, hq, e1, e2, e3⟩ := (he p.1 p.2.1).1 ⟨p, List.mem_cons_self, rfl, Int.le_refl _, ok.2.2.2.1⟩
      obtain ⟨q', hq', e1', e2', e3'⟩ := (he p'.1 p'.2.1).2 ⟨p', List.mem_cons_self, rfl, Int.le_refl _, ok'.2.2.2.1⟩
      have a := first_le h' hq
      have b := first_le h hq'
      omega
    have h1 := uniq_to h h' (fun r x => (he r x).1) hf
    have h2 := uniq_to h' h (fun r x => (he r x).2) ⟨hf.1.symm, hf.2.symm⟩
    have hp : p = p' := by
      obtain ⟨a, b, c⟩ := p
      obtain ⟨a', b', c'⟩ := p'
      simp at hf h1 h2
      obtain ⟨rfl, rfl⟩ := hf
      have : c = c' := by omega
      rw [this]
    subst hp
    have no : ∀ {s : List Rn}, FSrt (p :: s) → ∀ {r x}, RI s r x → ¬ InR p r x := by
      rintro s hs r x ⟨q, hq, f1, f2, f3⟩ ⟨g1, g2, g3⟩
      have := (List.pairwise_cons.1 hs.1).1 q hq
      unfold Apt at this; omega
    have ht : t = t' := by
      refine uniq ⟨(List.pairwise_cons.1 h.1).2, fun q hq => h.2 q (List.mem_cons_of_mem _ hq)⟩ ⟨(List.pairwise_cons.1 h'.1).2, fun q hq => h'.2 q (List.mem_cons_of_mem _ hq)⟩ (fun r x => ?_)
      have e := he r x
      rw [RI_cons, RI_cons] at e
      constructor
      · intro hx
        rcases e.1 (.inr hx) with k | k
        · exact absurd k (no h hx)
        · exact k
      · intro hx
        rcases e.2 (.inr hx) with k | k
        · exact absurd k (no h' hx)
        · exact k
    rw [ht]

def insStep (s : List Rn × Rn × List Rn) (q : Rn) : List Rn × Rn × List Rn :=
  if Apt q s.2.1 then (s.1 ++ [q], s.2.1, s.2.2) else if Apt s.2.1 q then (s.1, s.2.1, s.2.2 ++ [q]) else (s.1, (s.2.1.1, min q.2.1 s.2.1.2.1, max q.2.2 s.2.1.2.2), s.2.2)
def insSt (l : List Rn) (r : Rn) : List Rn × Rn × List Rn := l.foldl insStep ([], r, [])
def ins (l : List Rn) (r : Rn) : List Rn := (insSt l r).1 ++ [(insSt l r).2.1] ++ (insSt l r).2.2

structure Inv (s : List Rn × Rn × List Rn) (t : List Rn) : Prop where
  b : FSrt s.1
  a : FSrt s.2.2
  r : Rok s.2.1
  br : ∀ p ∈ s.1, Apt p s.2.1
  ra : ∀ p ∈ s.2.2, Apt s.2.1 p
  bt : ∀ p ∈ s.1, ∀ q ∈ t, Apt p q
  at' : ∀ p ∈ s.2.2, ∀ q ∈ t, Apt p q
  t : FSrt t

def RS (s : List Rn × Rn × List Rn) (r x : Int) : Prop := RI s.1 r x ∨ InR s.2.1 r x ∨ RI s.2.2 r x

theorem FSrt.snoc {l : List Rn} {q : Rn} (h : FSrt l) (hq : Rok q) (ha : ∀ p ∈ l, Apt p q) : FSrt (l ++ [q]) :=
  ⟨List.pairwise_append.2 ⟨h.1, List.pairwise_singleton _ _, fun p hp q' hq' => by rw [List.mem_singleton] at hq'; subst hq'; exact ha p hp⟩, fun p hp => by
    rcases List.mem_append.1 hp with hp | hp
    · exact h.2 p hp
    · rw [List.mem_singleton] at hp; subst hp; exact hq⟩

theorem Inv.step {s : List Rn × Rn × List Rn} {q : Rn} {t : List Rn} (h : Inv s (q :: t)) : Inv (insStep s q) t ∧ ∀ r x, RS (insStep s q) r x ↔ (RS s r x ∨ InR q r x) := by
  have hq := h.t.2 q List.mem_cons_self
  have hqt := (List.pairwise_cons.1 h.t.1).1
  have ht : FSrt t := ⟨(List.pairwise_cons.1 h.t.1).2, fun p hp => h.t.2 p (List.mem_cons_of_mem _ hp)⟩
  have bt := fun p hp q' (hq' : q' ∈ t) => h.bt p hp q' (List.mem_cons_of_mem _ hq')
  have at' := fun p hp q' (hq' : q' ∈ t) => h.at' p hp q' (List.mem_cons_of_mem _ hq')
  unfold insStep
  split
  · rename_i hA
    refine ⟨⟨h.b.snoc hq (fun p hp => h.bt p hp q List.mem_cons_self), h.a, h.r, fun p hp => ?_, h.ra, fun p hp => ?_, at', ht⟩, fun r x => ?_⟩
    · rcases List.mem_append.1 hp with hp | hp
      · exact h.br p hp
      · rw [List.mem_singleton] at hp; subst hp; exact hA
    · rcases List.mem_append.1 hp with hp | hp
      · exact bt p hp
      · rw [List.mem_singleton] at hp; subst hp; exact hqt
    · simp only [RS, RI_append, RI_one]
      constructor
      · rintro ((a | a) | a | a)
        · exact .inl (.inl a)
        · exact .inr a
        · exact .inl (.inr (.inl a))
        · exact .inl (.inr (.inr a))
      · rintro ((a | a | a) | a)
        · exact .inl (.inl a)
        · exact .inr (.inl a)
        · exact .inr (.inr a)
        · exact .inl (.inr a)
  · rename_i hA
    split
    · rename_i hB
      refine ⟨⟨h.b, h.a.snoc hq (fun p hp => h.at' p hp q List.mem_cons_self), h.r, h.br, fun p hp => ?_, bt, fun p hp => ?_, ht⟩, fun r x => ?_⟩
      · rcases List.mem_append.1 hp with hp | hp
        · exact h.ra p hp
        · rw [List.mem_singleton] at hp; subst hp; exact hB
      · rcases List.mem_append.1 hp with hp | hp
        · exact at' p hp
        · rw [List.mem_singleton] at hp; subst hp; exact hqt
      · simp only [RS, RI_append, RI_one]
        constructor
        · rintro (a | a | a | a)
          · exact .inl (.inl a)
          · exact .inl (.inr (.inl a))
          · exact .inl (.inr (.inr a))
          · exact .inr a
        · rintro ((a | a | a) | a)
          · exact .inl a
          · exact .inr (.inl a)
          · exact .inr (.inr (.inl a))
          · exact .inr (.inr (.inr a))
    · rename_i hB
      have hr := h.r
      have nil : ∀ p ∈ s.2.2, False := fun p hp => hB ((h.ra p hp).trans (h.a.2 p hp) (h.at' p hp q List.mem_cons_self))
      refine ⟨⟨h.b, h.a, ?_, fun p hp => ?_, fun p hp => (nil p hp).elim, bt, at', ht⟩, fun r x => ?_⟩
      · unfold Apt Rok at *; simp only; omega
      · have h1 := h.br p hp
        have h2 := h.bt p hp q List.mem_cons_self
        unfold Apt at *; simp only; omega
      · have key : InR (s.2.1.1, min q.2.1 s.2.1.2.1, max q.2.2 s.2.1.2.2) r x ↔ (InR s.2.1 r x ∨ InR q r x) := by
          unfold InR Apt Rok at *; simp only; omega
        simp only [RS, key]
        constructor
        · rintro (a | (a | a) | a)
          · exact .inl (.inl a)
          · exact .inl (.inr (.inl a))
          · exact .inr a
          · exact .inl (.inr (.inr a))
        · rintro ((a | a | a) | a)
          · exact .inl a
          · exact .inr (.inl (.inl a))
          · exact .inr (.inr a)
          · exact .inr (.inl (.inr a))

theorem Inv.fold : ∀ (t : List Rn) (s : List Rn × Rn × List Rn), Inv s t → Inv (t.foldl insStep s) [] ∧ ∀ r x, RS (t.foldl insStep s) r x ↔ (RS s r x ∨ RI t r x)
  | [], s, h => ⟨h, fun r x => by simp [RI]⟩
  | q :: t, s, h => by
    obtain ⟨h1, h2⟩ := h.step
    obtain ⟨h3, h4⟩ := Inv.fold t _ h1
    refine ⟨h3, fun r x => ?_⟩
    rw [List.foldl_cons, h4 r x, h2 r x, RI_cons, or_assoc]

theorem ins_ok {l : List Rn} {r : Rn} (hl : FSrt l) (hr : Rok r) : FSrt (ins l r) ∧ ∀ y x, RI (ins l r) y x ↔ (RI l y x ∨ InR r y x) := by
  have h0 : Inv ([], r, []) l := ⟨⟨List.Pairwise.nil, (fun p hp => by cases hp)⟩, ⟨List.Pairwise.nil, (fun p hp => by cases hp)⟩, hr, (fun p hp => by cases hp), (fun p hp => by cases hp), (fun p hp => by cases hp), (fun p hp => by cases hp), hl⟩
  obtain ⟨h, he⟩ := Inv.fold l _ h0
  change Inv (insSt l r) [] at h
  refine ⟨⟨?_, fun p hp => ?_⟩, fun y x => ?_⟩
  · unfold ins
    rw [List.append_assoc]
    refine List.pairwise_append.2 ⟨h.b.1, List.pairwise_append.2 ⟨List.pairwise_singleton _ _, h.a.1, fun p hp q hq => ?_⟩, fun p hp q hq => ?_⟩
    · rw [List.mem_singleton] at hp; subst hp; exact h.ra q hq
    · rcases List.mem_append.1 hq with hq | hq
      · rw [List.mem_singleton] at hq; subst hq; exact h.br p hp
      · exact (h.br p hp).trans h.r (h.ra q hq)
  · unfold ins at hp
    rcases List.mem_append.1 hp with hp | hp
    · rcases List.mem_append.1 hp with hp | hp
      · exact h.b.2 p hp
      · rw [List.mem_singleton] at hp; subst hp; exact h.r
    · exact h.a.2 p hp
  · have := he y x
    unfold ins
    rw [RI_append, RI_append, RI_one]
    change RS (insSt l r) y x ↔ _ at this
    unfold RS at this
    rw [or_assoc, this]
    simp [RI]
    exact or_comm

def unF (l b : List Rn) : List Rn := b.foldl ins l
theorem unF_ok : ∀ (b l : List Rn), FSrt l → (∀ p ∈ b, Rok p) → FSrt (unF l b) ∧ ∀ y x, RI (unF l b) y x ↔ (RI l y x ∨ RI b y x)
  | [], l, h, _ => ⟨h, fun y x => by simp [unF, RI]⟩
  | q :: b, l, h, hb => by
    obtain ⟨h1, h2⟩ := ins_ok h (hb q List.mem_cons_self)
    obtain ⟨h3, h4⟩ := unF_ok b (ins l q) h1 (fun p hp => hb p (List.mem_cons_of_mem _ hp))
    refine ⟨h3, fun y x => ?_⟩
    show RI (unF (ins l q) b) y x ↔ _
    rw [h4, h2, RI_cons, or_assoc]
end Go.Proofs.YtbimcammjohaoadDoor
