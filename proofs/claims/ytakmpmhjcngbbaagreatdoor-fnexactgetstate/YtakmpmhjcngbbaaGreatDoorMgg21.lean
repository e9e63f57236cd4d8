import Derived.Test.YtakmpmhjcngbbaaGreatDoorMgg20
import Derived.Test.YtakmpmhjcngbbaaGreatDoorMgg17
set_option linter.unusedVariables false
set_option linter.unusedSimpArgs false
set_option maxRecDepth 100000
set_option maxHeartbeats 40000000
namespace Go.Proofs.YtakmpmhjcngbbaaGreatDoor
open Go.ChangeShapes Go.WideShapes Go.ChangeAt Go.RowKit Go.Maps Go.Sort
def In (l : List (Int × Int)) (x : Int) : Prop := ∃ p ∈ l, p.1 ≤ x ∧ x ≤ p.2
theorem In_append {l l' : List (Int × Int)} {x : Int} : In (l ++ l') x ↔ In l x ∨ In l' x := by
  constructor
  · rintro ⟨p, hp, h⟩
    rcases List.mem_append.1 hp with hp | hp
    · exact .inl ⟨p, hp, h⟩
    · exact .inr ⟨p, hp, h⟩
  · rintro (⟨p, hp, h⟩ | ⟨p, hp, h⟩)
    · exact ⟨p, List.mem_append.2 (.inl hp), h⟩
    · exact ⟨p, List.mem_append.2 (.inr hp), h⟩
theorem In_one {p : Int × Int} {x : Int} : In [p] x ↔ p.1 ≤ x ∧ x ≤ p.2 := by simp [In]
theorem In_nil {x : Int} : ¬ In [] x := by simp [In]
def flat (R F T : Nat → Int) (n : Nat) : List Rn := (List.range n).map fun i => (R i, F i, T i)
def tag (r : Int) (l : List (Int × Int)) : List Rn := l.map fun p => (r, p.1, p.2)
def outF (L : Int → List (Int × Int)) (k : Nat) : List Rn := (KS L k).flatMap fun r => tag r (L r)
theorem flat_succ (R F T : Nat → Int) (n : Nat) : flat R F T (n + 1) = flat R F T n ++ [(R n, F n, T n)] := by simp [flat, List.range_succ]
theorem flat_in (R F T : Nat → Int) : ∀ (n : Nat) (r x : Int), RI (flat R F T n) r x ↔ In (Lk R F T n r) x
  | 0, r, x => by simp [flat, Lk, RI, In]
  | n + 1, r, x => by
    rw [flat_succ, RI_append, RI_one, flat_in R F T n r x]
    by_cases e : r = R n
    · subst e
      have : Lk R F T (n + 1) (R n) = Lk R F T n (R n) ++ [(F n, T n)] := upd_same _ _ _
      rw [this, In_append, In_one]
      simp [InR]
    · have : Lk R F T (n + 1) r = Lk R F T n r := upd_other _ _ e
      rw [this]
      simp [InR, Ne.symm e]
theorem flat_srt {R F T : Nat → Int} : ∀ (n : Nat), okTo R F T n → FSrt (flat R F T n)
  | 0, _ => ⟨by simp [flat], fun p hp => by simp [flat] at hp⟩
  | n + 1, h => by
    have ih := flat_srt n (fun i hi => h i (by omega))
    have ho := runOk_iff.1 (h n (by omega)).1
    rw [flat_succ]
    refine ih.snoc ho (fun p hp => ?_)
    cases n with
    | zero => simp [flat] at hp
    | succ m =>
      have hap := (h (m + 1) (by omega)).2 (by omega)
      unfold apartB at hap
      have hap := of_decide_eq_true hap
      rw [Nat.add_sub_cancel] at hap
      have hlast : Apt (R m, F m, T m) (R (m + 1), F (m + 1), T (m + 1)) := hap
      rw [flat_succ] at hp ih
      rcases List.mem_append.1 hp with hp | hp
      · have h1 := (List.pairwise_append.1 ih.1).2.2 p hp _ (List.mem_singleton.2 rfl)
        exact h1.trans (ih.2 _ (by simp)) hlast
      · rw [List.mem_singleton] at hp; subst hp; exact hlast
theorem tag_srt {r : Int} {l : List (Int × Int)} (h : Srt l) (h0 : 0 ≤ r) (h8 : r < 8) : FSrt (tag r l) := by
  refine ⟨List.pairwise_map.2 (h.1.imp (fun hh => .inr ⟨rfl, hh⟩)), fun p hp => ?_⟩
  obtain ⟨q, hq, rfl⟩ := List.mem_map.1 hp
  have := h.2 q hq
  exact ⟨h0, h8, this⟩
theorem tag_in {r : Int} {l : List (Int × Int)} {y x : Int} : RI (tag r l) y x ↔ (r = y ∧ In l x) := by
  constructor
  · rintro ⟨p, hp, h1, h2⟩
    obtain ⟨q, hq, rfl⟩ := List.mem_map.1 hp
    exact ⟨h1, q, hq, h2⟩
  · rintro ⟨rfl, q, hq, h⟩
    exact ⟨_, List.mem_map.2 ⟨q, hq, rfl⟩, rfl, h⟩
theorem outF_succ_y {L : Int → List (Int × Int)} {k : Nat} (h : (L (k : Int)).isEmpty = false) : outF L (k + 1) = outF L k ++ tag (k : Int) (L (k : Int)) := by
  simp [outF, KS, h]
theorem outF_succ_n {L : Int → List (Int × Int)} {k : Nat} (h : (L (k : Int)).isEmpty = true) : outF L (k + 1) = outF L k := by
  simp [outF, KS, h]
theorem outF_ok {L : Int → List (Int × Int)} (hL : ∀ r, Srt (L r)) : ∀ k : Nat, k ≤ 8 → FSrt (outF L k) ∧ (∀ y x, RI (outF L k) y x ↔ (0 ≤ y ∧ y < k ∧ In (L y) x)) ∧ ∀ p ∈ outF L k, p.1 < k
  | 0, _ => ⟨⟨by simp [outF, KS], fun p hp => by simp [outF, KS] at hp⟩, fun y x => by simp [outF, KS, RI]; omega, fun p hp => by simp [outF, KS] at hp⟩
  | k + 1, hk => by
    obtain ⟨i1, i2, i3⟩ := outF_ok hL k (by omega)
    by_cases e : (L (k : Int)).isEmpty = true
    · rw [outF_succ_n e]
      refine ⟨i1, fun y x => ?_, fun p hp => by have := i3 p hp; omega⟩
      rw [i2]
      constructor
      · rintro ⟨a, b, c⟩; exact ⟨a, by omega, c⟩
      · rintro ⟨a, b, c⟩
        refine ⟨a, ?_, c⟩
        rcases Int.lt_or_le y k with h | h
        · exact h
        · have : y = (k : Int) := by omega
          subst this
          have : L (k : Int) = [] := by simpa using e
          rw [this] at c; exact absurd c In_nil
    · have e : (L (k : Int)).isEmpty = false := by simpa using e
      rw [outF_succ_y e]
      have ht := tag_srt (hL (k : Int)) (by omega : (0 : Int) ≤ k) (by omega)
      refine ⟨⟨List.pairwise_append.2 ⟨i1.1, ht.1, fun p hp q hq => ?_⟩, fun p hp => ?_⟩, fun y x => ?_, fun p hp => ?_⟩
      · obtain ⟨q', _, rfl⟩ := List.mem_map.1 hq
        exact .inl (i3 p hp)
      · rcases List.mem_append.1 hp with hp | hp
        · exact i1.2 p hp
        · exact ht.2 p hp
      · rw [RI_append, i2, tag_in]
        constructor
        · rintro (⟨a, b, c⟩ | ⟨rfl, c⟩)
          · exact ⟨a, by omega, c⟩
          · exact ⟨by omega, by omega, c⟩
        · rintro ⟨a, b, c⟩
          rcases Int.lt_or_le y k with h | h
          · exact .inl ⟨a, h, c⟩
          · have : y = (k : Int) := by omega
            subst this; exact .inr ⟨rfl, c⟩
      · rcases List.mem_append.1 hp with hp | hp
        · have := i3 p hp; omega
        · obtain ⟨q', _, rfl⟩ := List.mem_map.1 hp; show (k : Int) < _; omega
end Go.Proofs.YtakmpmhjcngbbaaGreatDoor
