/- Contracts of the program's functions on memory (chapter 2): the four ranges of addresses, read and written. -/
import Derived.Test.YtnfphdpoimjcmaaMemN
import Derived.Laws.Entries
namespace Go.Proofs.Ytnfphdpoimjcmaa
open Go.ChangeShapes Go.WideShapes Go.ChangeAt Go.RowKit

theorem run_store_func (w : World) (a : Addr) (m : Mode) (fn : Fn) (x y : Array Value) : (store a (.func fn x y) m).run Try.prog w = stored Try.prog w a (.func fn x y) m := run_store Try.prog w a _ m rfl
/-- What finding a range leaves. -/
def Found (f g : FuncId) (w : World) (e : Ending) (w' : World) : Prop := e = .returned (.agg #[.func (.func f) #[] #[], .func (.func g) #[] #[]]) ∧ Below w.heap.size w w'
end Go.Proofs.Ytnfphdpoimjcmaa
