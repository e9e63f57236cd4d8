import Derived.Test.YtbimcammjohaoadDoorUni2
import Derived.Test.YtbimcammjohaoadDoorSr
namespace Go.Proofs.YtbimcammjohaoadDoor
open Go.ChangeShapes Go.WideShapes Go.ChangeAt Go.RowKit Go.Maps Go.Sort
set_option linter.unusedVariables false
set_option linter.unusedSimpArgs false

theorem spanCells_last (l : List (Int × Int)) (q : Int × Int) (z : Int) : (spanCells (l ++ [q])).set (l.length * 2 + 1) (.int .i64 z) = spanCells (l ++ [(q.1, z)]) := by
  rw [spanCells_append, spanCells_append, List.set_append_right _ _ (by rw [spanCells_len]; omega), spanCells_len, show l.length * 2 + 1 - l.length * 2 = 1 from by omega]
  rfl

end Go.Proofs.YtbimcammjohaoadDoor
