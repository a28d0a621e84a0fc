/- The walks of the exact laws of chapter 3 that take numbers or instructions. -/
import Derived.Test.YtmdldoofljdakaaDoorOps
namespace Go.Proofs.YtmdldoofljdakaaDoor
open Go.ChangeShapes Go.WideShapes Go.ChangeAt Go.RowKit

theorem toOrder_any (op arg : Int) (w : World) : Calls Tryd.prog 28 #[.agg #[.int .i64 op, .int .i64 arg]] w fun e w' => e = .returned (.agg #[.int .i64 op, .int .i64 arg]) ∧ Below w.heap.size w w' := by
  go_enter Tryd.func28, Tryd.ntmps28
  go_wp2
  refine bodyPost_ret (v := .agg #[.int .i64 op, .int .i64 arg]) (by simp [results, Tryd.results28, go_sem]) rfl ⟨rfl, ?_⟩
  exact below3 w _ _ _
theorem ord_len (op arg : Int) : (ordN op arg).length ≤ 3 := (ordN_bytes op arg).1
end Go.Proofs.YtmdldoofljdakaaDoor
