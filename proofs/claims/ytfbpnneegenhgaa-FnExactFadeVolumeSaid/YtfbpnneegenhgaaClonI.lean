/- The library's Clone on slices of integers. -/
import Derived.Test.YtfbpnneegenhgaaGA
import Derived.Lib.SliceRun
namespace Go.Proofs.Ytfbpnneegenhgaa
open Go.ChangeShapes Go.WideShapes Go.ChangeAt Go.RowKit

end Go.Proofs.Ytfbpnneegenhgaa
