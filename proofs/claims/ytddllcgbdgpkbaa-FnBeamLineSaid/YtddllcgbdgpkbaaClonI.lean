/- The library's Clone on slices of integers. -/
import Derived.Test.YtddllcgbdgpkbaaGA
import Derived.Lib.SliceRun
namespace Go.Proofs.Ytddllcgbdgpkbaa
open Go.ChangeShapes Go.WideShapes Go.ChangeAt Go.RowKit

end Go.Proofs.Ytddllcgbdgpkbaa
