/- The program's shifted backgrounds: copies of tables and of tiles, ShiftField. -/
import Derived.Test.YtfbpnneegenhgaaFldD
import Derived.Test.YtfbpnneegenhgaaTilT
import Derived.Deep.RegionLaw
namespace Go.Proofs.Ytfbpnneegenhgaa
open Go.ChangeShapes Go.WideShapes Go.ChangeAt Go.RowKit
set_option linter.unusedVariables false

end Go.Proofs.Ytfbpnneegenhgaa
