/- One step of the program's machine. -/
import Derived.Test.YtcapfafglikcmaaDoorMchF
import Derived.Test.YtcapfafglikcmaaDoorKH
namespace Go.Proofs.YtcapfafglikcmaaDoor
open Go.ChangeShapes Go.WideShapes Go.ChangeAt Go.RowKit

theorem Ops.far {w w' : World} {L : Nat} (h : Ops w) (k : Below L w w') (hg : 0 < L) : Ops w' := fun i hi => (k.cell (p := ⟨0, i, none⟩) hg).trans (h i hi)
/-- What finding an instruction's function leaves. -/
def Acts (f : FuncId) (w : World) (e : Ending) (w' : World) : Prop := e = .returned (.func (.func f) #[] #[]) ∧ Below w.heap.size w w'
theorem act_0 (w : World) : Calls Tryd.prog 59 #[.int .i64 0] w (Acts 81 w) := by
  have hst := run_store_func
  go_enter Tryd.func59, Tryd.ntmps59
  go_wp2_with fail
  go_ret
  exact ⟨rfl, below1 w _⟩
theorem act_1 (w : World) : Calls Tryd.prog 59 #[.int .i64 1] w (Acts 82 w) := by
  have hst := run_store_func
  go_enter Tryd.func59, Tryd.ntmps59
  go_wp2_with fail
  go_ret
  exact ⟨rfl, below1 w _⟩
theorem act_2 (w : World) : Calls Tryd.prog 59 #[.int .i64 2] w (Acts 83 w) := by
  have hst := run_store_func
  go_enter Tryd.func59, Tryd.ntmps59
  go_wp2_with fail
  go_ret
  exact ⟨rfl, below1 w _⟩
theorem act_3 (w : World) : Calls Tryd.prog 59 #[.int .i64 3] w (Acts 84 w) := by
  have hst := run_store_func
  go_enter Tryd.func59, Tryd.ntmps59
  go_wp2_with fail
  go_ret
  exact ⟨rfl, below1 w _⟩
theorem act_4 (w : World) : Calls Tryd.prog 59 #[.int .i64 4] w (Acts 85 w) := by
  have hst := run_store_func
  go_enter Tryd.func59, Tryd.ntmps59
  go_wp2_with fail
  go_ret
  exact ⟨rfl, below1 w _⟩
theorem act_5 (w : World) : Calls Tryd.prog 59 #[.int .i64 5] w (Acts 86 w) := by
  have hst := run_store_func
  go_enter Tryd.func59, Tryd.ntmps59
  go_wp2_with fail
  go_ret
  exact ⟨rfl, below1 w _⟩
theorem act_6 (w : World) : Calls Tryd.prog 59 #[.int .i64 6] w (Acts 87 w) := by
  have hst := run_store_func
  go_enter Tryd.func59, Tryd.ntmps59
  go_wp2_with fail
  go_ret
  exact ⟨rfl, below1 w _⟩
theorem act_7 (w : World) : Calls Tryd.prog 59 #[.int .i64 7] w (Acts 88 w) := by
  have hst := run_store_func
  go_enter Tryd.func59, Tryd.ntmps59
  go_wp2_with fail
  go_ret
  exact ⟨rfl, below1 w _⟩
theorem act_8 (w : World) : Calls Tryd.prog 59 #[.int .i64 8] w (Acts 89 w) := by
  have hst := run_store_func
  go_enter Tryd.func59, Tryd.ntmps59
  go_wp2_with fail
  go_ret
  exact ⟨rfl, below1 w _⟩
theorem act_9 (w : World) : Calls Tryd.prog 59 #[.int .i64 9] w (Acts 90 w) := by
  have hst := run_store_func
  go_enter Tryd.func59, Tryd.ntmps59
  go_wp2_with fail
  go_ret
  exact ⟨rfl, below1 w _⟩
theorem act_10 (w : World) : Calls Tryd.prog 59 #[.int .i64 10] w (Acts 91 w) := by
  have hst := run_store_func
  go_enter Tryd.func59, Tryd.ntmps59
  go_wp2_with fail
  go_ret
  exact ⟨rfl, below1 w _⟩
theorem act_11 (w : World) : Calls Tryd.prog 59 #[.int .i64 11] w (Acts 92 w) := by
  have hst := run_store_func
  go_enter Tryd.func59, Tryd.ntmps59
  go_wp2_with fail
  go_ret
  exact ⟨rfl, below1 w _⟩
theorem act_12 (w : World) : Calls Tryd.prog 59 #[.int .i64 12] w (Acts 93 w) := by
  have hst := run_store_func
  go_enter Tryd.func59, Tryd.ntmps59
  go_wp2_with fail
  go_ret
  exact ⟨rfl, below1 w _⟩
theorem act_13 (w : World) : Calls Tryd.prog 59 #[.int .i64 13] w (Acts 94 w) := by
  have hst := run_store_func
  go_enter Tryd.func59, Tryd.ntmps59
  go_wp2_with fail
  go_ret
  exact ⟨rfl, below1 w _⟩
theorem act_14 (w : World) : Calls Tryd.prog 59 #[.int .i64 14] w (Acts 95 w) := by
  have hst := run_store_func
  go_enter Tryd.func59, Tryd.ntmps59
  go_wp2_with fail
  go_ret
  exact ⟨rfl, below1 w _⟩
theorem act_15 (w : World) : Calls Tryd.prog 59 #[.int .i64 15] w (Acts 96 w) := by
  have hst := run_store_func
  go_enter Tryd.func59, Tryd.ntmps59
  go_wp2_with fail
  go_ret
  exact ⟨rfl, below1 w _⟩
end Go.Proofs.YtcapfafglikcmaaDoor
