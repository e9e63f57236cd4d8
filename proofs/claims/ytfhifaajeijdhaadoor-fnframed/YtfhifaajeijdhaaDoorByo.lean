import Derived.Test.YtfhifaajeijdhaaDoorByt
namespace Go.Proofs.YtfhifaajeijdhaaDoor
open Go.ChangeShapes Go.WideShapes Go.ChangeAt Go.RowKit
set_option linter.unusedVariables false

end Go.Proofs.YtfhifaajeijdhaaDoor
