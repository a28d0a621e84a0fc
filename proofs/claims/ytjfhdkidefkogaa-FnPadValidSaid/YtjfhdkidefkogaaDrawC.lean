/- The arguments that the laws of chapter 1 draw. -/
import Derived.Test.YtjfhdkidefkogaaDrawB
namespace Go.Proofs.Ytjfhdkidefkogaa
open Go.ChangeShapes Go.WideShapes Go.ChangeAt Go.RowKit

/-- Two drawn numbers and a bool. -/
def Two3 (w : World) (e : Ending) (w' : World) : Prop :=
  ∃ (x y : Int) (c : Bool), -1 ≤ x ∧ x ≤ 256 ∧ -1 ≤ y ∧ y ≤ 256 ∧ e = .returned (.tuple #[.int .i64 x, .int .i64 y, .bool c]) ∧ Below w.heap.size w w'
/-- A drawn number and a bool. -/
def One2 (w : World) (e : Ending) (w' : World) : Prop :=
  ∃ (x : Int) (c : Bool), -1 ≤ x ∧ x ≤ 256 ∧ e = .returned (.tuple #[.int .i64 x, .bool c]) ∧ Below w.heap.size w w'
/-- A drawn number. -/
def One1 (w : World) (e : Ending) (w' : World) : Prop :=
  ∃ x : Int, -1 ≤ x ∧ x ≤ 256 ∧ e = .returned (.int .i64 x) ∧ Below w.heap.size w w'
/-- Two drawn numbers. -/
def Two2 (w : World) (e : Ending) (w' : World) : Prop :=
  ∃ x y : Int, -1 ≤ x ∧ x ≤ 256 ∧ -1 ≤ y ∧ y ≤ 256 ∧ e = .returned (.tuple #[.int .i64 x, .int .i64 y]) ∧ Below w.heap.size w w'
theorem draw_new (a : Option Addr) (len cap : Nat) (zs : List Int) (w : World) (h : IsRow .u8 w a len cap zs) :
    Calls Try.prog 28 #[.slice a len cap] w (Two2 w) := by
  have H := Lib.hid h
  clear h
  go_enter Try.func28, Try.ntmps28
  go_wp2_with fail
  refine (open_any a len cap zs _ H.out).mono ?_
  rintro e w1 ⟨rfl, b1, r1⟩
  have B1 := Lib.hid b1
  have R1 := Lib.hid r1
  clear b1 r1
  go_wp2_with fail
  refine (byte_any _ 0 12 _ R1.out (by omega) (by omega) (by omega)).mono ?_
  rintro e w2 ⟨x, x0, x1, rfl, s2, r2⟩
  have B2 := Lib.hid (B1.out.trans (s2.below (Nat.le_refl _) B1.out.size))
  have R2 := Lib.hid r2
  clear s2 r2 B1 R1
  go_wp2_with fail
  refine (byte_any _ 5 12 _ R2.out (by omega) (by omega) (by omega)).mono ?_
  rintro e w4 ⟨y, y0, y1, rfl, s4, r4⟩
  have B4 := Lib.hid (B2.out.trans (s4.below (Nat.le_refl _) B2.out.size))
  clear s4 r4 B2 R2
  go_wp2_with fail
  go_ret2
  exact ⟨x, y, x0, x1, y0, y1, rfl, B4.out⟩
end Go.Proofs.Ytjfhdkidefkogaa
