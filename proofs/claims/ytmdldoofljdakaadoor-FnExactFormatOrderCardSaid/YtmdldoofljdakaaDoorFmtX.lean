/- The walk of the exact law of FormatOrder. -/
import Derived.Test.YtmdldoofljdakaaDoorFmt
import Derived.Test.YtmdldoofljdakaaDoorOrdX
namespace Go.Proofs.YtmdldoofljdakaaDoor
open Go.ChangeShapes Go.WideShapes Go.ChangeAt Go.RowKit

theorem walk_FnExactFormatOrder (op arg : Int) (w : World) (h : Env w) : Calls Tryd.prog 7 #[.agg #[.int .i64 op, .int .i64 arg]] w fun e w' => e = .returned (.bool true) ∧ Below w.heap.size w w' := by
  have H := Lib.hid h
  clear h
  go_enter Tryd.func7, Tryd.ntmps7
  go_wp2_with fail
  refine (toOrder_any _ _ _).mono ?_; rintro e w1 ⟨rfl, b1⟩
  have X1 : Hid (Box w1 w.heap.size 44 [.int .i64 op, .int .i64 arg]) := (Box.new w _ _).below b1
  have B1 : Hid (Below w.heap.size w w1) := (below1 w _).trans (b1.mono (by simp))
  clear b1
  go_wp2_with fail
  refine (spec_fmt _ _ _).mono ?_; rintro e w2 ⟨rfl, b2⟩
  have X2 := Lib.hid (X1.out.below b2)
  have B2 := Lib.hid (below_then B1.out b2)
  clear b2
  have c0 : w2.cell? ⟨w.heap.size, 0, none⟩ = some (.int .i64 op) := X2.out.cell 0
  have c1 : w2.cell? ⟨w.heap.size, 1, none⟩ = some (.int .i64 arg) := X2.out.cell 1
  generalize hS : fmtN op arg = S
  have HS := Lib.hid hS
  clear hS
  go_wp2_with fail
  refine (toOrder_any _ _ _).mono ?_; rintro e w3 ⟨rfl, b3⟩
  have B3 := Lib.hid (below_then B2.out b3)
  clear b3 c0 c1
  go_wp2_with fail
  refine (impl_fmt _ _ _ (H.out.below B3.out)).mono ?_; rintro e w4 ⟨rfl, b4⟩
  have B4 := Lib.hid (below_then B3.out b4)
  clear b4
  rw [HS.out]
  generalize (⟨S.toArray⟩ : ByteArray) = T
  go_wp2_with fail
  go_ret
  exact ⟨rfl, B4.out⟩
end Go.Proofs.YtmdldoofljdakaaDoor
