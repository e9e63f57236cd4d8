import Derived.Test.YtljnhdapbmkghadDoorWh
import Derived.Test.YtljnhdapbmkghadDoorSpn
import Derived.Maps.Range
namespace Go.Proofs.YtljnhdapbmkghadDoor
open Go.ChangeShapes Go.WideShapes Go.ChangeAt Go.RowKit Go.Maps
set_option linter.unusedVariables false
set_option linter.unusedSimpArgs false

end Go.Proofs.YtljnhdapbmkghadDoor
