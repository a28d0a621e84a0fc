/- The laws' own functions on slices of tiles: equal, marked, held; their sizes. -/
import Derived.Test.YtfbpnneegenhgaaFldJ
namespace Go.Proofs.Ytfbpnneegenhgaa
open Go.ChangeShapes Go.WideShapes Go.ChangeAt Go.RowKit
set_option linter.unusedVariables false

end Go.Proofs.Ytfbpnneegenhgaa
