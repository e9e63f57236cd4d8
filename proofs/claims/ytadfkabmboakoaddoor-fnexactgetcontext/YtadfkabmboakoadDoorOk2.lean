import Derived.Test.YtadfkabmboakoadDoorOk
namespace Go.Proofs.YtadfkabmboakoadDoor
open Go.ChangeShapes Go.WideShapes Go.ChangeAt Go.RowKit
set_option linter.unusedVariables false
set_option linter.unusedSimpArgs false

end Go.Proofs.YtadfkabmboakoadDoor
