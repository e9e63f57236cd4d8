import Derived.Test.YtbimcammjohaoacUnI
import Derived.Test.YtbimcammjohaoacUnS2
import Derived.Test.YtbimcammjohaoacHeld
import Derived.Test.YtbimcammjohaoacEq
import Derived.Test.YtbimcammjohaoacOpen
namespace Go.Proofs.Ytbimcammjohaoac
open Go.ChangeShapes Go.WideShapes Go.ChangeAt Go.RowKit Go.Maps Go.Sort
set_option linter.unusedVariables false
set_option linter.unusedSimpArgs false

theorem unZ_len (R F T : Nat → Int) (n : Nat) (R' F' T' : Nat → Int) (n' : Nat) : (unZ R F T n R' F' T' n').length ≤ 1000 := by
  unfold unZ
  split
  · rename_i h
    unfold unB at h
    have := (Bool.and_eq_true_iff.1 h).2
    simpa using this
  · simp

end Go.Proofs.Ytbimcammjohaoac
