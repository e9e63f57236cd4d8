import Derived.Test.YtbimcammjohaoadDoorOk
namespace Go.Proofs.YtbimcammjohaoadDoor
open Go.ChangeShapes Go.WideShapes Go.ChangeAt Go.RowKit
set_option linter.unusedVariables false
set_option linter.unusedSimpArgs false

end Go.Proofs.YtbimcammjohaoadDoor
