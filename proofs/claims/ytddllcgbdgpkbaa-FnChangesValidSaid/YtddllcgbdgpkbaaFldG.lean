/- The program's shifted backgrounds: copies of tables and of tiles, ShiftField. -/
import Derived.Test.YtddllcgbdgpkbaaFldD
import Derived.Test.YtddllcgbdgpkbaaTilT
import Derived.Deep.RegionLaw
namespace Go.Proofs.Ytddllcgbdgpkbaa
open Go.ChangeShapes Go.WideShapes Go.ChangeAt Go.RowKit
set_option linter.unusedVariables false

end Go.Proofs.Ytddllcgbdgpkbaa
