import Derived.Test.YtjnfecdedmcnmaaDoorByt
namespace Go.Proofs.YtjnfecdedmcnmaaDoor
open Go.ChangeShapes Go.WideShapes Go.ChangeAt Go.RowKit
set_option linter.unusedVariables false

end Go.Proofs.YtjnfecdedmcnmaaDoor
