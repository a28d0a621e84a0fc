/- The program's TileValid. -/
import Derived.Test.YtfbpnneegenhgaaArrA
import Derived.Test.YtfbpnneegenhgaaTilA
namespace Go.Proofs.Ytfbpnneegenhgaa
open Go.ChangeShapes Go.WideShapes Go.ChangeAt Go.RowKit
set_option linter.unusedVariables false

end Go.Proofs.Ytfbpnneegenhgaa
