/- A row of the call's own stays. -/
import Derived.Test.YtmdldoofljdakaaDoorGrow
namespace Go.Proofs.YtmdldoofljdakaaDoor
open Go.ChangeShapes Go.WideShapes Go.ChangeAt Go.RowKit

theorem own_below {w w' : World} {base : Nat} {e : TypeId} {v : Value} {n : Nat} {xs : List Value} (h : w.ownsRow base e 1 v n xs) (k : Below w.heap.size w w') : w'.ownsRow base e 1 v n xs := own_only h (.of_below (S := []) k) (by simp)
end Go.Proofs.YtmdldoofljdakaaDoor
