import Derived.Test.YtbimcammjohaoadDoorWh
import Derived.Test.YtbimcammjohaoadDoorSpn
import Derived.Maps.Range
namespace Go.Proofs.YtbimcammjohaoadDoor
open Go.ChangeShapes Go.WideShapes Go.ChangeAt Go.RowKit Go.Maps
set_option linter.unusedVariables false
set_option linter.unusedSimpArgs false

end Go.Proofs.YtbimcammjohaoadDoor
