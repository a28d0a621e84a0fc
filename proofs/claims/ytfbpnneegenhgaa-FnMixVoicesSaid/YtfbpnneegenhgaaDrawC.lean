/- The arguments that the laws of chapter 1 draw. -/
import Derived.Test.YtfbpnneegenhgaaGC
namespace Go.Proofs.Ytfbpnneegenhgaa
open Go.ChangeShapes Go.WideShapes Go.ChangeAt Go.RowKit

/-- Two drawn numbers and a bool. -/
def Two3 (w : World) (e : Ending) (w' : World) : Prop :=
  ∃ (x y : Int) (c : Bool), -1 ≤ x ∧ x ≤ 256 ∧ -1 ≤ y ∧ y ≤ 256 ∧ e = .returned (.tuple #[.int .i64 x, .int .i64 y, .bool c]) ∧ Below w.heap.size w w'
/-- A drawn number and a bool. -/
def One2 (w : World) (e : Ending) (w' : World) : Prop :=
  ∃ (x : Int) (c : Bool), -1 ≤ x ∧ x ≤ 256 ∧ e = .returned (.tuple #[.int .i64 x, .bool c]) ∧ Below w.heap.size w w'
/-- A drawn number. -/
def One1 (w : World) (e : Ending) (w' : World) : Prop :=
  ∃ x : Int, -1 ≤ x ∧ x ≤ 256 ∧ e = .returned (.int .i64 x) ∧ Below w.heap.size w w'
/-- Two drawn numbers. -/
def Two2 (w : World) (e : Ending) (w' : World) : Prop :=
  ∃ x y : Int, -1 ≤ x ∧ x ≤ 256 ∧ -1 ≤ y ∧ y ≤ 256 ∧ e = .returned (.tuple #[.int .i64 x, .int .i64 y]) ∧ Below w.heap.size w w'
end Go.Proofs.Ytfbpnneegenhgaa
