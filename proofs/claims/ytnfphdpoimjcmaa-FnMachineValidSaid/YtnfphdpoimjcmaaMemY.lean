/- Contracts of the program's functions on memory (chapter 2): CopyMemory. -/
import Derived.Test.YtnfphdpoimjcmaaMemX
import Derived.Deep.RegionLaw
namespace Go.Proofs.Ytnfphdpoimjcmaa
open Go.ChangeShapes Go.WideShapes Go.ChangeAt Go.RowKit

end Go.Proofs.Ytnfphdpoimjcmaa
