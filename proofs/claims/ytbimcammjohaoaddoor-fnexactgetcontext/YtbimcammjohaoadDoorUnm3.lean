import Derived.Test.YtbimcammjohaoadDoorUnm2
namespace Go.Proofs.YtbimcammjohaoadDoor
open Go.ChangeShapes Go.WideShapes Go.ChangeAt Go.RowKit Go.Maps Go.Sort
set_option linter.unusedVariables false
set_option linter.unusedSimpArgs false

def SK (f : Int → Nat) : Nat → Nat
  | 0 => 0
  | k + 1 => SK f k + f (k : Int)
theorem SK_zero {f : Int → Nat} (h : ∀ r, f r = 0) : ∀ k, SK f k = 0
  | 0 => rfl
  | k + 1 => by simp only [SK]; rw [SK_zero h k, h]
theorem SK_same {f f' : Int → Nat} {x : Int} (ho : ∀ r, r ≠ x → f' r = f r) : ∀ k : Nat, ((k : Int) ≤ x ∨ x < 0) → SK f' k = SK f k
  | 0, _ => rfl
  | k + 1, h => by simp only [SK]; rw [SK_same ho k (by omega), ho k (by omega)]
theorem SK_upd {f f' : Int → Nat} {x : Int} (ho : ∀ r, r ≠ x → f' r = f r) (h0 : 0 ≤ x) : ∀ k : Nat, x < k → SK f' k + f x = SK f k + f' x
  | 0, h => by omega
  | k + 1, h => by
    simp only [SK]
    by_cases e : x = (k : Int)
    · rw [SK_same ho k (by omega), ← e]; omega
    · have := SK_upd ho h0 k (by omega)
      rw [ho k (fun h => e h.symm)]; omega
theorem SK_le {f f' : Int → Nat} (h : ∀ r, f r ≤ f' r) : ∀ k, SK f k ≤ SK f' k
  | 0 => Nat.le_refl _
  | k + 1 => Nat.add_le_add (SK_le h k) (h _)
theorem SK_const {f : Int → Nat} {c : Nat} (h : ∀ r, f r ≤ c) : ∀ k, SK f k ≤ c * k
  | 0 => Nat.le_refl _
  | k + 1 => by have := SK_const h k; have := h (k : Int); simp only [SK]; rw [Nat.mul_succ]; omega
theorem outF_len (L : Int → List (Int × Int)) : ∀ k, (outF L k).length = SK (fun r => (L r).length) k
  | 0 => rfl
  | k + 1 => by
    by_cases e : (L (k : Int)).isEmpty = true
    · rw [outF_succ_n e, outF_len L k]
      have : L (k : Int) = [] := by simpa using e
      simp [SK, this]
    · rw [outF_succ_y (by simpa using e), List.length_append, outF_len L k]
      simp [SK, tag]

end Go.Proofs.YtbimcammjohaoadDoor
