/- Contracts of the program's functions on memory (chapter 2): CopyMemory. -/
import Derived.Test.YtgciaafapbaliaaGreatDoorMemX
namespace Go.Proofs.YtgciaafapbaliaaGreatDoor
open Go.ChangeShapes Go.WideShapes Go.ChangeAt Go.RowKit

end Go.Proofs.YtgciaafapbaliaaGreatDoor
