import Derived.Test.YtljnhdapbmkghacWh
import Derived.Deep.RegionHeld3
import Derived.OwnWalk
namespace Go.Proofs.Ytljnhdapbmkghac
open Go.ChangeShapes Go.WideShapes Go.ChangeAt Go.RowKit
set_option linter.unusedVariables false
set_option linter.unusedSimpArgs false

end Go.Proofs.Ytljnhdapbmkghac
