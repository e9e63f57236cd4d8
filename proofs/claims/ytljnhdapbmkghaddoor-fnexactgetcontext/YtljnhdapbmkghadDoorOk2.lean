import Derived.Test.YtljnhdapbmkghadDoorOk
namespace Go.Proofs.YtljnhdapbmkghadDoor
open Go.ChangeShapes Go.WideShapes Go.ChangeAt Go.RowKit
set_option linter.unusedVariables false
set_option linter.unusedSimpArgs false

end Go.Proofs.YtljnhdapbmkghadDoor
