import Derived.Test.YtadfkabmboakoadDoorWh
import Derived.Test.YtadfkabmboakoadDoorSpn
import Derived.Maps.Range
namespace Go.Proofs.YtadfkabmboakoadDoor
open Go.ChangeShapes Go.WideShapes Go.ChangeAt Go.RowKit Go.Maps
set_option linter.unusedVariables false
set_option linter.unusedSimpArgs false

end Go.Proofs.YtadfkabmboakoadDoor
