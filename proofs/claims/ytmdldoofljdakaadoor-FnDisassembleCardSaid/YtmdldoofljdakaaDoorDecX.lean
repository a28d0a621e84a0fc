/- The walk of the exact law of DecodeOrder. -/
import Derived.Test.YtmdldoofljdakaaDoorDecI
namespace Go.Proofs.YtmdldoofljdakaaDoor
open Go.ChangeShapes Go.WideShapes Go.ChangeAt Go.RowKit

def dOp : Option (Int × Int) → Int | some (op, _) => op | none => 0
def dArg : Option (Int × Int) → Int | some (_, arg) => arg | none => 0
def dLen : Option (Int × Int) → Int | some (op, _) => lenN op | none => 0
def dOk : Option (Int × Int) → Bool | some _ => true | none => false
theorem decV_parts (d : Option (Int × Int)) : decV d = .tuple #[.agg #[.int .i64 (dOp d), .int .i64 (dArg d)], .int .i64 (dLen d), .bool (dOk d)] := by
  rcases d with _ | ⟨op, arg⟩ <;> rfl
theorem Decoded.parts {d : Option (Int × Int)} {w w' : World} {e : Ending} (h : Decoded d w e w') : e = .returned (.tuple #[.agg #[.int .i64 (dOp d), .int .i64 (dArg d)], .int .i64 (dLen d), .bool (dOk d)]) ∧ Below w.heap.size w w' := ⟨h.1.trans (by rw [decV_parts]), h.2⟩
theorem eqOrder_same (op arg : Int) (w : World) : Calls Tryd.prog 29 #[.agg #[.int .i64 op, .int .i64 arg], .agg #[.int .i64 op, .int .i64 arg]] w fun e w' => e = .returned (.bool true) ∧ Below w.heap.size w w' := by
  go_enter Tryd.func29, Tryd.ntmps29
  go_wp2
  go_ret
  exact ⟨rfl, below2 w _ _⟩
end Go.Proofs.YtmdldoofljdakaaDoor
