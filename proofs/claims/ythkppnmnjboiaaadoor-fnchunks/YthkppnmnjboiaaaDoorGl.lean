import Derived.Test.YthkppnmnjboiaaaDoorGk
namespace Go.Proofs.YthkppnmnjboiaaaDoor
open Go.ChangeShapes Go.WideShapes Go.ChangeAt Go.RowKit
set_option linter.unusedVariables false
set_option linter.unusedSimpArgs false

theorem guC_or (f : Nat → Int) (n p m : Nat) : guC f n p m = 0 ∨ (guC f n p m = 1 ∨ guC f n p m = 2 ∨ guC f n p m = 3) := by
  unfold guC
  repeat' split
  all_goals simp

def gX (f : Nat → Int) (n m : Nat) (x : Int) : Nat × Int × Nat := if 0 ≤ x ∧ x < n then (guV f n x.toNat m, (guA f n x.toNat m : Int), guC f n x.toNat m) else (0, x, 1)

end Go.Proofs.YthkppnmnjboiaaaDoor
