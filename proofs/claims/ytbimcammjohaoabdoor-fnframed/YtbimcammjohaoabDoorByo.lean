import Derived.Test.YtbimcammjohaoabDoorByt
namespace Go.Proofs.YtbimcammjohaoabDoor
open Go.ChangeShapes Go.WideShapes Go.ChangeAt Go.RowKit
set_option linter.unusedVariables false

end Go.Proofs.YtbimcammjohaoabDoor
