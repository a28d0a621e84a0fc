/- Contracts of the program's functions on memory (chapter 2): copies. -/
import Derived.Test.YtnfphdpoimjcmaaMemB
import Derived.Test.YtnfphdpoimjcmaaOwn
import Derived.Lib.SliceRun
import Derived.Deep.RegionHeld3
namespace Go.Proofs.Ytnfphdpoimjcmaa
open Go.ChangeShapes Go.WideShapes Go.ChangeAt Go.RowKit

end Go.Proofs.Ytnfphdpoimjcmaa
