/- Contracts of the program's functions on memory (chapter 2): a byte at an address. -/
import Derived.Test.YtnfphdpoimjcmaaMemR
namespace Go.Proofs.Ytnfphdpoimjcmaa
open Go.ChangeShapes Go.WideShapes Go.ChangeAt Go.RowKit

/-- What reading leaves. -/
def Got (x : Int) (w : World) (e : Ending) (w' : World) : Prop := e = .returned (.int .i64 x) ∧ Below w.heap.size w w'
end Go.Proofs.Ytnfphdpoimjcmaa
