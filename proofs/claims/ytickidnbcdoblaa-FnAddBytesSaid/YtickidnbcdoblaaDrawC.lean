/- The arguments that the laws of chapter 1 draw. -/
import Derived.Test.YtickidnbcdoblaaDrawB
namespace Go.Proofs.Ytickidnbcdoblaa
open Go.ChangeShapes Go.WideShapes Go.ChangeAt Go.RowKit

/-- Two drawn numbers and a bool. -/
def Two3 (w : World) (e : Ending) (w' : World) : Prop :=
  ∃ (x y : Int) (c : Bool), -1 ≤ x ∧ x ≤ 256 ∧ -1 ≤ y ∧ y ≤ 256 ∧ e = .returned (.tuple #[.int .i64 x, .int .i64 y, .bool c]) ∧ Below w.heap.size w w'
/-- A drawn number and a bool. -/
def One2 (w : World) (e : Ending) (w' : World) : Prop :=
  ∃ (x : Int) (c : Bool), -1 ≤ x ∧ x ≤ 256 ∧ e = .returned (.tuple #[.int .i64 x, .bool c]) ∧ Below w.heap.size w w'
/-- A drawn number. -/
def One1 (w : World) (e : Ending) (w' : World) : Prop :=
  ∃ x : Int, -1 ≤ x ∧ x ≤ 256 ∧ e = .returned (.int .i64 x) ∧ Below w.heap.size w w'
/-- Two drawn numbers. -/
def Two2 (w : World) (e : Ending) (w' : World) : Prop :=
  ∃ x y : Int, -1 ≤ x ∧ x ≤ 256 ∧ -1 ≤ y ∧ y ≤ 256 ∧ e = .returned (.tuple #[.int .i64 x, .int .i64 y]) ∧ Below w.heap.size w w'
theorem draw_add (a : Option Addr) (len cap : Nat) (zs : List Int) (w : World) (h : IsRow .u8 w a len cap zs) :
    Calls Try.prog 17 #[.slice a len cap] w (Two3 w) := by
  have H := Lib.hid h
  clear h
  go_enter Try.func17, Try.ntmps17
  go_wp2_with fail
  refine (open_any a len cap zs _ H.out).mono ?_
  rintro e w1 ⟨rfl, b1, r1⟩
  have B1 := Lib.hid b1
  have R1 := Lib.hid r1
  clear b1 r1
  go_wp2_with fail
  refine (byte_any _ 0 14 _ R1.out (by omega) (by omega) (by omega)).mono ?_
  rintro e w2 ⟨x, x0, x1, rfl, s2, r2⟩
  have B2 := Lib.hid (B1.out.trans (s2.below (Nat.le_refl _) B1.out.size))
  have R2 := Lib.hid r2
  clear s2 r2 B1 R1
  go_wp2_with fail
  refine (byte_any _ 5 14 _ R2.out (by omega) (by omega) (by omega)).mono ?_
  rintro e w3 ⟨y, y0, y1, rfl, s3, r3⟩
  have B3 := Lib.hid (B2.out.trans (s3.below (Nat.le_refl _) B2.out.size))
  have R3 := Lib.hid r3
  clear s3 r3 B2 R2
  go_wp2_with fail
  refine (pick_any _ 10 2 _ R3.out (by omega) (by omega) (by omega)).mono ?_
  rintro e w4 ⟨v, v0, v1, rfl, s4, r4⟩
  have B4 := Lib.hid (B3.out.trans (s4.below (Nat.le_refl _) B3.out.size))
  clear s4 r4 B3 R3
  go_wp2_with fail
  go_ret3
  exact ⟨x, y, _, x0, x1, y0, y1, rfl, B4.out⟩
theorem draw_sub (a : Option Addr) (len cap : Nat) (zs : List Int) (w : World) (h : IsRow .u8 w a len cap zs) :
    Calls Try.prog 23 #[.slice a len cap] w (Two3 w) := by
  have H := Lib.hid h
  clear h
  go_enter Try.func23, Try.ntmps23
  go_wp2_with fail
  refine (draw_add a len cap zs _ H.out).mono ?_
  rintro e w1 ⟨x, y, c, x0, x1, y0, y1, rfl, b1⟩
  go_wp2_with fail
  go_ret3
  exact ⟨x, y, _, x0, x1, y0, y1, rfl, b1⟩
theorem draw_rol (a : Option Addr) (len cap : Nat) (zs : List Int) (w : World) (h : IsRow .u8 w a len cap zs) :
    Calls Try.prog 28 #[.slice a len cap] w (One2 w) := by
  have H := Lib.hid h
  clear h
  go_enter Try.func28, Try.ntmps28
  go_wp2_with fail
  refine (open_any a len cap zs _ H.out).mono ?_
  rintro e w1 ⟨rfl, b1, r1⟩
  have B1 := Lib.hid b1
  have R1 := Lib.hid r1
  clear b1 r1
  go_wp2_with fail
  refine (byte_any _ 0 12 _ R1.out (by omega) (by omega) (by omega)).mono ?_
  rintro e w2 ⟨x, x0, x1, rfl, s2, r2⟩
  have B2 := Lib.hid (B1.out.trans (s2.below (Nat.le_refl _) B1.out.size))
  have R2 := Lib.hid r2
  clear s2 r2 B1 R1
  go_wp2_with fail
  refine (pick_any _ 5 2 _ R2.out (by omega) (by omega) (by omega)).mono ?_
  rintro e w4 ⟨v, v0, v1, rfl, s4, r4⟩
  have B4 := Lib.hid (B2.out.trans (s4.below (Nat.le_refl _) B2.out.size))
  clear s4 r4 B2 R2
  go_wp2_with fail
  go_ret2
  exact ⟨x, _, x0, x1, rfl, B4.out⟩
theorem draw_ror (a : Option Addr) (len cap : Nat) (zs : List Int) (w : World) (h : IsRow .u8 w a len cap zs) :
    Calls Try.prog 32 #[.slice a len cap] w (One2 w) := by
  have H := Lib.hid h
  clear h
  go_enter Try.func32, Try.ntmps32
  go_wp2_with fail
  refine (draw_rol a len cap zs _ H.out).mono ?_
  rintro e w1 ⟨x, c, x0, x1, rfl, b1⟩
  go_wp2_with fail
  go_ret2
  exact ⟨x, _, x0, x1, rfl, b1⟩
theorem draw_new (a : Option Addr) (len cap : Nat) (zs : List Int) (w : World) (h : IsRow .u8 w a len cap zs) :
    Calls Try.prog 37 #[.slice a len cap] w (Two2 w) := by
  have H := Lib.hid h
  clear h
  go_enter Try.func37, Try.ntmps37
  go_wp2_with fail
  refine (open_any a len cap zs _ H.out).mono ?_
  rintro e w1 ⟨rfl, b1, r1⟩
  have B1 := Lib.hid b1
  have R1 := Lib.hid r1
  clear b1 r1
  go_wp2_with fail
  refine (byte_any _ 0 12 _ R1.out (by omega) (by omega) (by omega)).mono ?_
  rintro e w2 ⟨x, x0, x1, rfl, s2, r2⟩
  have B2 := Lib.hid (B1.out.trans (s2.below (Nat.le_refl _) B1.out.size))
  have R2 := Lib.hid r2
  clear s2 r2 B1 R1
  go_wp2_with fail
  refine (byte_any _ 5 12 _ R2.out (by omega) (by omega) (by omega)).mono ?_
  rintro e w4 ⟨y, y0, y1, rfl, s4, r4⟩
  have B4 := Lib.hid (B2.out.trans (s4.below (Nat.le_refl _) B2.out.size))
  clear s4 r4 B2 R2
  go_wp2_with fail
  go_ret2
  exact ⟨x, y, x0, x1, y0, y1, rfl, B4.out⟩
theorem draw_sgn (a : Option Addr) (len cap : Nat) (zs : List Int) (w : World) (h : IsRow .u8 w a len cap zs) :
    Calls Try.prog 26 #[.slice a len cap] w (One1 w) := by
  have H := Lib.hid h
  clear h
  go_enter Try.func26, Try.ntmps26
  go_wp2_with fail
  refine (open_any a len cap zs _ H.out).mono ?_
  rintro e w1 ⟨rfl, b1, r1⟩
  have B1 := Lib.hid b1
  have R1 := Lib.hid r1
  clear b1 r1
  go_wp2_with fail
  refine (byte_any _ 0 9 _ R1.out (by omega) (by omega) (by omega)).mono ?_
  rintro e w2 ⟨x, x0, x1, rfl, s2, r2⟩
  have B2 := Lib.hid (B1.out.trans (s2.below (Nat.le_refl _) B1.out.size))
  clear s2 r2 B1 R1
  go_wp2_with fail
  go_ret
  exact ⟨x, x0, x1, rfl, B2.out⟩
theorem draw_ones (a : Option Addr) (len cap : Nat) (zs : List Int) (w : World) (h : IsRow .u8 w a len cap zs) :
    Calls Try.prog 35 #[.slice a len cap] w (One1 w) := by
  have H := Lib.hid h
  clear h
  go_enter Try.func35, Try.ntmps35
  go_wp2_with fail
  refine (open_any a len cap zs _ H.out).mono ?_
  rintro e w1 ⟨rfl, b1, r1⟩
  have B1 := Lib.hid b1
  have R1 := Lib.hid r1
  clear b1 r1
  go_wp2_with fail
  refine (byte_any _ 0 9 _ R1.out (by omega) (by omega) (by omega)).mono ?_
  rintro e w2 ⟨x, x0, x1, rfl, s2, r2⟩
  have B2 := Lib.hid (B1.out.trans (s2.below (Nat.le_refl _) B1.out.size))
  clear s2 r2 B1 R1
  go_wp2_with fail
  go_ret
  exact ⟨x, x0, x1, rfl, B2.out⟩
end Go.Proofs.Ytickidnbcdoblaa
