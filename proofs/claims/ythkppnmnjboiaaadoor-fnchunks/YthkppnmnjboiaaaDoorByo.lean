import Derived.Test.YthkppnmnjboiaaaDoorByt
namespace Go.Proofs.YthkppnmnjboiaaaDoor
open Go.ChangeShapes Go.WideShapes Go.ChangeAt Go.RowKit
set_option linter.unusedVariables false

end Go.Proofs.YthkppnmnjboiaaaDoor
