/- The exact laws of chapter 7 on controllers, walked; a controller that came in. -/
import Derived.Test.YtjfhdkidefkogaaPadA
import Derived.Lib.SmallJoins
namespace Go.Proofs.Ytjfhdkidefkogaa
open Go.ChangeShapes Go.WideShapes Go.ChangeAt Go.RowKit

section
variable {H : Type} {enc : TypeId × Value → H} {w : World} {base : Nat} {held : Bool}
set_option maxRecDepth 100000 in
theorem pad_in {r : Reach} {b0 : Nat} {v : Value} {dd : DataW H} {p : List MemPlace} (hv : Value.okWide Try.prog w r b0 39 v) (h : DataW.Trod enc Try.prog w base (fun _ => true) held 39 v dd p) : ∃ l r f : Int, v = .agg #[.int .i64 l, .int .i64 r, .int .i64 f] := by
  obtain ⟨v0, v1, v2, y0, y1, y2, m, rfl, _, _, t0, t1, t2⟩ := Go.Joins.open_agg3 (P := Try.prog) (t := 39) Try.underlying39 (by kernel_rfl) (by kernel_rfl) hv h
  obtain ⟨z0, h0, _⟩ := DataW.trod_int Try.underlying3 t0
  obtain ⟨z1, h1, _⟩ := DataW.trod_int Try.underlying3 t1
  obtain ⟨z2, h2, _⟩ := DataW.trod_int Try.underlying3 t2
  obtain rfl : v0 = .int .i64 z0 := by simpa using h0
  obtain rfl : v1 = .int .i64 z1 := by simpa using h1
  obtain rfl : v2 = .int .i64 z2 := by simpa using h2
  exact ⟨z0, z1, z2, rfl⟩
end
theorem walk_FnExactPadValid (p t r : Int) (w : World) : Calls Try.prog 9 #[.agg #[.int .i64 p, .int .i64 t, .int .i64 r]] w fun e w' => e = .returned (.bool true) ∧ Below w.heap.size w w' := by
  go_enter Try.func9, Try.ntmps9
  go_wp2_with fail
  refine (toPad_any _ _ _ _).mono ?_; rintro e w1 ⟨rfl, b1⟩
  have X1 : Hid (Box w1 w.heap.size 39 [.int .i64 p, .int .i64 t, .int .i64 r]) := (Box.new w _ _).below b1
  have B1 : Hid (Below w.heap.size w w1) := (below1 w _).trans (b1.mono (by simp))
  clear b1
  go_wp2_with fail
  refine (spec_padValid _ _ _ _).mono ?_; rintro e w2 ⟨rfl, b2⟩
  have X2 := Lib.hid (X1.out.below b2)
  have B2 := Lib.hid (below_then B1.out b2)
  clear b2
  have c0 : w2.cell? ⟨w.heap.size, 0, none⟩ = some (.int .i64 p) := X2.out.cell 0
  have c1 : w2.cell? ⟨w.heap.size, 1, none⟩ = some (.int .i64 t) := X2.out.cell 1
  have c2 : w2.cell? ⟨w.heap.size, 2, none⟩ = some (.int .i64 r) := X2.out.cell 2
  go_wp2_with fail
  refine (toPad_any _ _ _ _).mono ?_; rintro e w3 ⟨rfl, b3⟩
  have B3 := Lib.hid (below_then B2.out b3)
  clear b3 c0 c1 c2
  go_wp2_with fail
  refine (impl_padValid _ _ _ _).mono ?_; rintro e w4 ⟨rfl, b4⟩
  have B4 := Lib.hid (below_then B3.out b4)
  clear b4
  generalize padB p t r = V
  cases V
  · go_wp2_with fail
    go_ret
    exact ⟨rfl, B4.out⟩
  · go_wp2_with fail
    go_ret
    exact ⟨rfl, B4.out⟩
theorem walk_FnExactPressPad (p t r n : Int) (w : World) : Calls Try.prog 10 #[.agg #[.int .i64 p, .int .i64 t, .int .i64 r], .int .i64 n] w fun e w' => e = .returned (.bool true) ∧ Below w.heap.size w w' := by
  obtain ⟨x0, x1, x2, h⟩ := press_to p t r n
  have H := Lib.hid h
  clear h
  go_enter Try.func10, Try.ntmps10
  go_wp2_with fail
  refine (toPad_any _ _ _ _).mono ?_; rintro e w1 ⟨rfl, b1⟩
  have X1 : Hid (Box w1 w.heap.size 39 [.int .i64 p, .int .i64 t, .int .i64 r]) := (Box.new w _ _).below b1
  have B1 : Hid (Below w.heap.size w w1) := (below1 w _).trans (b1.mono (by simp))
  clear b1
  go_wp2_with fail
  refine (spec_press _ _ _ _ _ _ _ _ H.out).mono ?_; rintro e w2 ⟨rfl, b2⟩
  have X2 := Lib.hid ((X1.out.below b2).alloc (.cells #[.int .i64 x0, .int .i64 x1, .int .i64 x2] 24))
  have Y2 : Hid (Box (w2.alloc (.cells #[.int .i64 x0, .int .i64 x1, .int .i64 x2] 24)) w2.heap.size 24 [.int .i64 x0, .int .i64 x1, .int .i64 x2]) := Box.new w2 _ _
  have B2 := Lib.hid ((below_then B1.out b2).alloc (below_then B1.out b2).size (.cells #[.int .i64 x0, .int .i64 x1, .int .i64 x2] 24))
  clear b2
  have c0 : (w2.alloc (.cells #[.int .i64 x0, .int .i64 x1, .int .i64 x2] 24)).cell? ⟨w.heap.size, 0, none⟩ = some (.int .i64 p) := X2.out.cell 0
  have c1 : (w2.alloc (.cells #[.int .i64 x0, .int .i64 x1, .int .i64 x2] 24)).cell? ⟨w.heap.size, 1, none⟩ = some (.int .i64 t) := X2.out.cell 1
  have c2 : (w2.alloc (.cells #[.int .i64 x0, .int .i64 x1, .int .i64 x2] 24)).cell? ⟨w.heap.size, 2, none⟩ = some (.int .i64 r) := X2.out.cell 2
  go_wp2_with fail
  refine (toPad_any _ _ _ _).mono ?_; rintro e w3 ⟨rfl, b3⟩
  have B3 := Lib.hid (below_then B2.out b3)
  have Y3 := Lib.hid (Y2.out.below b3)
  clear b3 c0 c1 c2
  go_wp2_with fail
  refine (impl_press _ _ _ _ _ _ _ _ H.out).mono ?_; rintro e w4 ⟨rfl, b4⟩
  have B4 := Lib.hid (below_then B3.out b4)
  have Y4 := Lib.hid (Y3.out.below b4)
  have Z4 : Hid (Box (w4.alloc (.cells #[.int .i64 x0, .int .i64 x1, .int .i64 x2] 24)) w2.heap.size 24 [.int .i64 x0, .int .i64 x1, .int .i64 x2]) := Y4.out.alloc _
  have B5 := Lib.hid (B4.out.alloc B4.out.size (.cells #[.int .i64 x0, .int .i64 x1, .int .i64 x2] 24))
  have d0 : (w4.alloc (.cells #[.int .i64 x0, .int .i64 x1, .int .i64 x2] 24)).cell? ⟨w2.heap.size, 0, none⟩ = some (.int .i64 x0) := Z4.out.cell 0
  have d1 : (w4.alloc (.cells #[.int .i64 x0, .int .i64 x1, .int .i64 x2] 24)).cell? ⟨w2.heap.size, 1, none⟩ = some (.int .i64 x1) := Z4.out.cell 1
  have d2 : (w4.alloc (.cells #[.int .i64 x0, .int .i64 x1, .int .i64 x2] 24)).cell? ⟨w2.heap.size, 2, none⟩ = some (.int .i64 x2) := Z4.out.cell 2
  clear b4
  go_wp2_with fail
  refine (eqPad_any _ _ _ _).mono ?_; rintro e w6 ⟨rfl, b6⟩
  have B6 := Lib.hid (below_then B5.out b6)
  clear b6
  go_wp2_with fail
  go_ret
  exact ⟨rfl, B6.out⟩
theorem walk_FnExactLatchPad (p t r : Int) (w : World) : Calls Try.prog 11 #[.agg #[.int .i64 p, .int .i64 t, .int .i64 r]] w fun e w' => e = .returned (.bool true) ∧ Below w.heap.size w w' := by
  obtain ⟨x0, x1, x2, h⟩ := latch_to p t r
  have H := Lib.hid h
  clear h
  go_enter Try.func11, Try.ntmps11
  go_wp2_with fail
  refine (toPad_any _ _ _ _).mono ?_; rintro e w1 ⟨rfl, b1⟩
  have X1 : Hid (Box w1 w.heap.size 39 [.int .i64 p, .int .i64 t, .int .i64 r]) := (Box.new w _ _).below b1
  have B1 : Hid (Below w.heap.size w w1) := (below1 w _).trans (b1.mono (by simp))
  clear b1
  go_wp2_with fail
  refine (spec_latch _ _ _ _ _ _ _ H.out).mono ?_; rintro e w2 ⟨rfl, b2⟩
  have X2 := Lib.hid ((X1.out.below b2).alloc (.cells #[.int .i64 x0, .int .i64 x1, .int .i64 x2] 24))
  have Y2 : Hid (Box (w2.alloc (.cells #[.int .i64 x0, .int .i64 x1, .int .i64 x2] 24)) w2.heap.size 24 [.int .i64 x0, .int .i64 x1, .int .i64 x2]) := Box.new w2 _ _
  have B2 := Lib.hid ((below_then B1.out b2).alloc (below_then B1.out b2).size (.cells #[.int .i64 x0, .int .i64 x1, .int .i64 x2] 24))
  clear b2
  have c0 : (w2.alloc (.cells #[.int .i64 x0, .int .i64 x1, .int .i64 x2] 24)).cell? ⟨w.heap.size, 0, none⟩ = some (.int .i64 p) := X2.out.cell 0
  have c1 : (w2.alloc (.cells #[.int .i64 x0, .int .i64 x1, .int .i64 x2] 24)).cell? ⟨w.heap.size, 1, none⟩ = some (.int .i64 t) := X2.out.cell 1
  have c2 : (w2.alloc (.cells #[.int .i64 x0, .int .i64 x1, .int .i64 x2] 24)).cell? ⟨w.heap.size, 2, none⟩ = some (.int .i64 r) := X2.out.cell 2
  go_wp2_with fail
  refine (toPad_any _ _ _ _).mono ?_; rintro e w3 ⟨rfl, b3⟩
  have B3 := Lib.hid (below_then B2.out b3)
  have Y3 := Lib.hid (Y2.out.below b3)
  clear b3 c0 c1 c2
  go_wp2_with fail
  refine (impl_latch _ _ _ _ _ _ _ H.out).mono ?_; rintro e w4 ⟨rfl, b4⟩
  have B4 := Lib.hid (below_then B3.out b4)
  have Y4 := Lib.hid (Y3.out.below b4)
  have Z4 : Hid (Box (w4.alloc (.cells #[.int .i64 x0, .int .i64 x1, .int .i64 x2] 24)) w2.heap.size 24 [.int .i64 x0, .int .i64 x1, .int .i64 x2]) := Y4.out.alloc _
  have B5 := Lib.hid (B4.out.alloc B4.out.size (.cells #[.int .i64 x0, .int .i64 x1, .int .i64 x2] 24))
  have d0 : (w4.alloc (.cells #[.int .i64 x0, .int .i64 x1, .int .i64 x2] 24)).cell? ⟨w2.heap.size, 0, none⟩ = some (.int .i64 x0) := Z4.out.cell 0
  have d1 : (w4.alloc (.cells #[.int .i64 x0, .int .i64 x1, .int .i64 x2] 24)).cell? ⟨w2.heap.size, 1, none⟩ = some (.int .i64 x1) := Z4.out.cell 1
  have d2 : (w4.alloc (.cells #[.int .i64 x0, .int .i64 x1, .int .i64 x2] 24)).cell? ⟨w2.heap.size, 2, none⟩ = some (.int .i64 x2) := Z4.out.cell 2
  clear b4
  go_wp2_with fail
  refine (eqPad_any _ _ _ _).mono ?_; rintro e w6 ⟨rfl, b6⟩
  have B6 := Lib.hid (below_then B5.out b6)
  clear b6
  go_wp2_with fail
  go_ret
  exact ⟨rfl, B6.out⟩
theorem walk_FnExactReadPad (p t r : Int) (w : World) : Calls Try.prog 12 #[.agg #[.int .i64 p, .int .i64 t, .int .i64 r]] w fun e w' => e = .returned (.bool true) ∧ Below w.heap.size w w' := by
  obtain ⟨x0, x1, x2, x3, h⟩ := read_to p t r
  have H := Lib.hid h
  clear h
  go_enter Try.func12, Try.ntmps12
  go_wp2_with fail
  refine (toPad_any _ _ _ _).mono ?_; rintro e w1 ⟨rfl, b1⟩
  have X1 : Hid (Box w1 w.heap.size 39 [.int .i64 p, .int .i64 t, .int .i64 r]) := (Box.new w _ _).below b1
  have B1 : Hid (Below w.heap.size w w1) := (below1 w _).trans (b1.mono (by simp))
  clear b1
  go_wp2_with fail
  refine (spec_read _ _ _ _ _ _ _ _ H.out).mono ?_; rintro e w2 ⟨rfl, b2⟩
  have X2 := Lib.hid ((X1.out.below b2).alloc (.cells #[.int .i64 x0, .int .i64 x1, .int .i64 x2] 24))
  have Y2 : Hid (Box (w2.alloc (.cells #[.int .i64 x0, .int .i64 x1, .int .i64 x2] 24)) w2.heap.size 24 [.int .i64 x0, .int .i64 x1, .int .i64 x2]) := Box.new w2 _ _
  have B2 := Lib.hid ((below_then B1.out b2).alloc (below_then B1.out b2).size (.cells #[.int .i64 x0, .int .i64 x1, .int .i64 x2] 24))
  clear b2
  have c0 : (w2.alloc (.cells #[.int .i64 x0, .int .i64 x1, .int .i64 x2] 24)).cell? ⟨w.heap.size, 0, none⟩ = some (.int .i64 p) := X2.out.cell 0
  have c1 : (w2.alloc (.cells #[.int .i64 x0, .int .i64 x1, .int .i64 x2] 24)).cell? ⟨w.heap.size, 1, none⟩ = some (.int .i64 t) := X2.out.cell 1
  have c2 : (w2.alloc (.cells #[.int .i64 x0, .int .i64 x1, .int .i64 x2] 24)).cell? ⟨w.heap.size, 2, none⟩ = some (.int .i64 r) := X2.out.cell 2
  go_wp2_with fail
  refine (toPad_any _ _ _ _).mono ?_; rintro e w3 ⟨rfl, b3⟩
  have B3 := Lib.hid (below_then B2.out b3)
  have Y3 := Lib.hid (Y2.out.below b3)
  clear b3 c0 c1 c2
  go_wp2_with fail
  refine (impl_read _ _ _ _ _ _ _ _ H.out).mono ?_; rintro e w4 ⟨rfl, b4⟩
  have B4 := Lib.hid (below_then B3.out b4)
  have Y4 := Lib.hid (Y3.out.below b4)
  have Z4 : Hid (Box (w4.alloc (.cells #[.int .i64 x0, .int .i64 x1, .int .i64 x2] 24)) w2.heap.size 24 [.int .i64 x0, .int .i64 x1, .int .i64 x2]) := Y4.out.alloc _
  have B5 := Lib.hid (B4.out.alloc B4.out.size (.cells #[.int .i64 x0, .int .i64 x1, .int .i64 x2] 24))
  have d0 : (w4.alloc (.cells #[.int .i64 x0, .int .i64 x1, .int .i64 x2] 24)).cell? ⟨w2.heap.size, 0, none⟩ = some (.int .i64 x0) := Z4.out.cell 0
  have d1 : (w4.alloc (.cells #[.int .i64 x0, .int .i64 x1, .int .i64 x2] 24)).cell? ⟨w2.heap.size, 1, none⟩ = some (.int .i64 x1) := Z4.out.cell 1
  have d2 : (w4.alloc (.cells #[.int .i64 x0, .int .i64 x1, .int .i64 x2] 24)).cell? ⟨w2.heap.size, 2, none⟩ = some (.int .i64 x2) := Z4.out.cell 2
  clear b4
  go_wp2_with fail
  refine (eqPad_any _ _ _ _).mono ?_; rintro e w6 ⟨rfl, b6⟩
  have B6 := Lib.hid (below_then B5.out b6)
  clear b6
  go_wp2_with fail
  go_ret
  exact ⟨rfl, B6.out⟩
end Go.Proofs.Ytjfhdkidefkogaa
