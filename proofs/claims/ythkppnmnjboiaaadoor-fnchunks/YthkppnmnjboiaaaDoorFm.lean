import Derived.Test.YthkppnmnjboiaaaDoorFd
namespace Go.Proofs.YthkppnmnjboiaaaDoor
open Go.ChangeShapes Go.WideShapes Go.ChangeAt Go.RowKit
set_option linter.unusedVariables false
set_option linter.unusedSimpArgs false

def shF (f : Nat → Int) (p : Nat) : Nat → Int := fun i => f (p + i)
theorem shF_byt {f : Nat → Int} (hf : Byt f) (p : Nat) : Byt (shF f p) := fun i => hf (p + i)
theorem shF_shF (f : Nat → Int) (p q : Nat) : shF (shF f p) q = shF f (p + q) := by
  funext i; simp [shF, Nat.add_assoc]
theorem firstF_le (g : Nat → Int) (m : Nat) : (firstF g m).2 ≤ m := by
  unfold firstF
  split
  · exact Nat.zero_le _
  · split
    · exact Nat.zero_le _
    · rename_i h
      split
      · show _ + 4 ≤ m; omega
      · exact Nat.zero_le _
theorem firstF_go {g : Nat → Int} {m : Nat} (h : (firstF g m).2 ≠ 0) : (firstF g m).1 = 0 ∧ (headF g m).1 = 0 ∧ (headF g m).2.1 ≠ 0 ∧ (firstF g m).2 = (headF g m).2.1 + (headF g m).2.2 + 4 := by
  unfold firstF at h ⊢
  split at h
  · exact absurd rfl h
  · rename_i h1
    split at h
    · exact absurd rfl h
    · rename_i h2
      split at h
      · rename_i h3
        rw [if_neg h1, if_neg h2, if_pos h3]
        exact ⟨rfl, by omega, by omega, rfl⟩
      · exact absurd rfl h

noncomputable def frameF (f : Nat → Int) (N p : Nat) : Int × List Int := (f (p + 2), payl (shF f (p + (headF (shF f p) (N - p)).2.1)) (headF (shF f p) (N - p)).2.2)

noncomputable def feedK (f : Nat → Int) (N : Nat) : Nat → Nat → Nat × Nat × List (Int × List Int)
  | 0, p => (0, p, [])
  | k + 1, p =>
    if (firstF (shF f p) (N - p)).2 = 0 then ((firstF (shF f p) (N - p)).1, p, []) else
    ((feedK f N k (p + (firstF (shF f p) (N - p)).2)).1, (feedK f N k (p + (firstF (shF f p) (N - p)).2)).2.1, frameF f N p :: (feedK f N k (p + (firstF (shF f p) (N - p)).2)).2.2)
theorem feedK_fuel (f : Nat → Int) (N : Nat) : ∀ k k' p, N - p < k → N - p < k' → feedK f N k p = feedK f N k' p
  | 0, _, _, h, _ => absurd h (by omega)
  | _ + 1, 0, _, _, h => absurd h (by omega)
  | k + 1, k' + 1, p, h, h' => by
    unfold feedK
    by_cases h0 : (firstF (shF f p) (N - p)).2 = 0
    · rw [if_pos h0, if_pos h0]
    · have hle := firstF_le (shF f p) (N - p)
      rw [if_neg h0, if_neg h0, feedK_fuel f N k k' (p + (firstF (shF f p) (N - p)).2) (by omega) (by omega)]
noncomputable def feedF (f : Nat → Int) (N p : Nat) : Nat × Nat × List (Int × List Int) := feedK f N (N - p + 1) p
theorem feedF_stop {f : Nat → Int} {N p : Nat} (h : (firstF (shF f p) (N - p)).2 = 0) : feedF f N p = ((firstF (shF f p) (N - p)).1, p, []) := by
  unfold feedF feedK
  rw [if_pos h]
theorem feedF_go {f : Nat → Int} {N p : Nat} (h : (firstF (shF f p) (N - p)).2 ≠ 0) :
    feedF f N p = ((feedF f N (p + (firstF (shF f p) (N - p)).2)).1, (feedF f N (p + (firstF (shF f p) (N - p)).2)).2.1, frameF f N p :: (feedF f N (p + (firstF (shF f p) (N - p)).2)).2.2) := by
  have hle := firstF_le (shF f p) (N - p)
  show feedK f N (N - p + 1) p = _
  rw [feedK, if_neg h]
  unfold feedF
  rw [feedK_fuel f N (N - p) (N - (p + (firstF (shF f p) (N - p)).2) + 1) (p + (firstF (shF f p) (N - p)).2) (by omega) (by omega)]
theorem feedF_le (f : Nat → Int) (N : Nat) : ∀ k p, N - p < k → p ≤ N → p ≤ (feedF f N p).2.1 ∧ (feedF f N p).2.1 ≤ N
  | 0, _, h, _ => absurd h (by omega)
  | k + 1, p, h, hp => by
    by_cases h0 : (firstF (shF f p) (N - p)).2 = 0
    · rw [feedF_stop h0]; exact ⟨Nat.le_refl _, hp⟩
    · have hle := firstF_le (shF f p) (N - p)
      rw [feedF_go h0]
      have := feedF_le f N k (p + (firstF (shF f p) (N - p)).2) (by omega) (by omega)
      exact ⟨Nat.le_trans (Nat.le_add_right _ _) this.1, this.2⟩
end Go.Proofs.YthkppnmnjboiaaaDoor
