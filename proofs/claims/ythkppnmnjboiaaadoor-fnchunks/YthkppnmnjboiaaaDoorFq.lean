import Derived.Test.YthkppnmnjboiaaaDoorFr
namespace Go.Proofs.YthkppnmnjboiaaaDoor
open Go.ChangeShapes Go.WideShapes Go.ChangeAt Go.RowKit
set_option linter.unusedVariables false
set_option linter.unusedSimpArgs false

def mkPos (k0 : Nat) (l : List Fx) (i : Nat) : Nat := k0 + ((l.take i).map (fun x => 1 + x.2.2.length)).sum
theorem mkPos_zero (k0 : Nat) (l : List Fx) : mkPos k0 l 0 = k0 := by simp [mkPos]
theorem mkPos_succ (k0 : Nat) (l : List Fx) (i : Nat) (hi : i < l.length) : mkPos k0 l (i + 1) = mkPos k0 l i + 1 + (gFx l i).2.2.length := by
  have e : l.take (i + 1) = l.take i ++ [gFx l i] := by
    rw [List.take_add_one]
    simp [gFx, List.getD, hi]
  unfold mkPos
  rw [e, List.map_append, List.sum_append]
  simp; omega
theorem mkPos_mono (k0 : Nat) (l : List Fx) : ∀ j i, i + j ≤ l.length → mkPos k0 l i ≤ mkPos k0 l (i + j)
  | 0, i, _ => Nat.le_refl _
  | j + 1, i, h => by
    have := mkPos_mono k0 l j i (by omega)
    have h2 := mkPos_succ k0 l (i + j) (by omega)
    rw [show i + (j + 1) = i + j + 1 from rfl]
    omega
theorem mkPos_le (k0 : Nat) (l : List Fx) {i : Nat} (hi : i ≤ l.length) : mkPos k0 l i ≤ mkPos k0 l l.length := by
  have := mkPos_mono k0 l (l.length - i) i (by omega)
  rwa [show i + (l.length - i) = l.length by omega] at this
end Go.Proofs.YthkppnmnjboiaaaDoor
