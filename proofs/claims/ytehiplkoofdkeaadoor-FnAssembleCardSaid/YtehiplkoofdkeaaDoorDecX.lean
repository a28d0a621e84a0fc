/- The walk of the exact law of DecodeOrder. -/
import Derived.Test.YtehiplkoofdkeaaDoorDecI
namespace Go.Proofs.YtehiplkoofdkeaaDoor
open Go.ChangeShapes Go.WideShapes Go.ChangeAt Go.RowKit

def dOp : Option (Int × Int) → Int | some (op, _) => op | none => 0
def dArg : Option (Int × Int) → Int | some (_, arg) => arg | none => 0
def dLen : Option (Int × Int) → Int | some (op, _) => lenN op | none => 0
def dOk : Option (Int × Int) → Bool | some _ => true | none => false
theorem decV_parts (d : Option (Int × Int)) : decV d = .tuple #[.agg #[.int .i64 (dOp d), .int .i64 (dArg d)], .int .i64 (dLen d), .bool (dOk d)] := by
  rcases d with _ | ⟨op, arg⟩ <;> rfl
theorem Decoded.parts {d : Option (Int × Int)} {w w' : World} {e : Ending} (h : Decoded d w e w') : e = .returned (.tuple #[.agg #[.int .i64 (dOp d), .int .i64 (dArg d)], .int .i64 (dLen d), .bool (dOk d)]) ∧ Below w.heap.size w w' := ⟨h.1.trans (by rw [decV_parts]), h.2⟩
end Go.Proofs.YtehiplkoofdkeaaDoor
