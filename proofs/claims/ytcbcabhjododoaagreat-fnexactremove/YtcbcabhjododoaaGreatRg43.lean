import Derived.Test.YtcbcabhjododoaaGreatRg08
import Derived.Test.YtcbcabhjododoaaGreatRg42
set_option linter.unusedVariables false
set_option linter.unusedSimpArgs false
set_option maxRecDepth 100000
set_option maxHeartbeats 40000000
namespace Go.Proofs.YtcbcabhjododoaaGreat
open Go.ChangeShapes Go.WideShapes Go.ChangeAt Go.RowKit Go.Maps
end Go.Proofs.YtcbcabhjododoaaGreat
