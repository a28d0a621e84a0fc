/- Contracts of the program's functions on memory (chapter 2): CopyMemory. -/
import Derived.Test.YtgciaafapbaliaaMemX
namespace Go.Proofs.Ytgciaafapbaliaa
open Go.ChangeShapes Go.WideShapes Go.ChangeAt Go.RowKit

end Go.Proofs.Ytgciaafapbaliaa
