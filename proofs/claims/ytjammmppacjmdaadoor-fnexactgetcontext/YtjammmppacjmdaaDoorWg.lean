import Derived.Test.YtjammmppacjmdaaDoorWh
import Derived.Test.YtjammmppacjmdaaDoorSpn
import Derived.Maps.Range
namespace Go.Proofs.YtjammmppacjmdaaDoor
open Go.ChangeShapes Go.WideShapes Go.ChangeAt Go.RowKit Go.Maps
set_option linter.unusedVariables false
set_option linter.unusedSimpArgs false

end Go.Proofs.YtjammmppacjmdaaDoor
