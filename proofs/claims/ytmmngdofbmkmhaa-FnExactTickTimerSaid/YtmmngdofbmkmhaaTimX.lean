/- The exact laws of chapter 6, walked; a timer that came in. -/
import Derived.Test.YtmmngdofbmkmhaaTimB
import Derived.Lib.SmallJoins
namespace Go.Proofs.Ytmmngdofbmkmhaa
open Go.ChangeShapes Go.WideShapes Go.ChangeAt Go.RowKit

section
variable {H : Type} {enc : TypeId × Value → H} {w : World} {base : Nat} {held : Bool}
set_option maxRecDepth 100000 in
theorem timer_in {r : Reach} {b0 : Nat} {v : Value} {dd : DataW H} {p : List MemPlace} (hv : Value.okWide Try.prog w r b0 34 v) (h : DataW.Trod enc Try.prog w base (fun _ => true) held 34 v dd p) : ∃ l r f : Int, v = .agg #[.int .i64 l, .int .i64 r, .int .i64 f] := by
  obtain ⟨v0, v1, v2, y0, y1, y2, m, rfl, _, _, t0, t1, t2⟩ := Go.Joins.open_agg3 (P := Try.prog) (t := 34) Try.underlying34 (by kernel_rfl) (by kernel_rfl) hv h
  obtain ⟨z0, h0, _⟩ := DataW.trod_int Try.underlying3 t0
  obtain ⟨z1, h1, _⟩ := DataW.trod_int Try.underlying3 t1
  obtain ⟨z2, h2, _⟩ := DataW.trod_int Try.underlying3 t2
  obtain rfl : v0 = .int .i64 z0 := by simpa using h0
  obtain rfl : v1 = .int .i64 z1 := by simpa using h1
  obtain rfl : v2 = .int .i64 z2 := by simpa using h2
  exact ⟨z0, z1, z2, rfl⟩
end
theorem walk_FnExactTimerValid (l r f : Int) (w : World) : Calls Try.prog 8 #[.agg #[.int .i64 l, .int .i64 r, .int .i64 f]] w fun e w' => e = .returned (.bool true) ∧ Below w.heap.size w w' := by
  go_enter Try.func8, Try.ntmps8
  go_wp2_with fail
  refine (toTimer_any _ _ _ _).mono ?_; rintro e w1 ⟨rfl, b1⟩
  have X1 : Hid (Box w1 w.heap.size 34 [.int .i64 l, .int .i64 r, .int .i64 f]) := (Box.new w _ _).below b1
  have B1 : Hid (Below w.heap.size w w1) := (below1 w _).trans (b1.mono (by simp))
  clear b1
  go_wp2_with fail
  refine (spec_timValid _ _ _ _).mono ?_; rintro e w2 ⟨rfl, b2⟩
  have X2 := Lib.hid (X1.out.below b2)
  have B2 := Lib.hid (below_then B1.out b2)
  clear b2
  have c0 : w2.cell? ⟨w.heap.size, 0, none⟩ = some (.int .i64 l) := X2.out.cell 0
  have c1 : w2.cell? ⟨w.heap.size, 1, none⟩ = some (.int .i64 r) := X2.out.cell 1
  have c2 : w2.cell? ⟨w.heap.size, 2, none⟩ = some (.int .i64 f) := X2.out.cell 2
  go_wp2_with fail
  refine (toTimer_any _ _ _ _).mono ?_; rintro e w3 ⟨rfl, b3⟩
  have B3 := Lib.hid (below_then B2.out b3)
  clear b3 c0 c1 c2
  go_wp2_with fail
  refine (impl_timValid _ _ _ _).mono ?_; rintro e w4 ⟨rfl, b4⟩
  have B4 := Lib.hid (below_then B3.out b4)
  clear b4
  generalize timB l r f = V
  cases V
  · go_wp2_with fail
    go_ret
    exact ⟨rfl, B4.out⟩
  · go_wp2_with fail
    go_ret
    exact ⟨rfl, B4.out⟩
theorem walk_FnExactNextFire (l r f : Int) (w : World) : Calls Try.prog 11 #[.agg #[.int .i64 l, .int .i64 r, .int .i64 f]] w fun e w' => e = .returned (.bool true) ∧ Below w.heap.size w w' := by
  go_enter Try.func11, Try.ntmps11
  go_wp2_with fail
  refine (toTimer_any _ _ _ _).mono ?_; rintro e w1 ⟨rfl, b1⟩
  have X1 : Hid (Box w1 w.heap.size 34 [.int .i64 l, .int .i64 r, .int .i64 f]) := (Box.new w _ _).below b1
  have B1 : Hid (Below w.heap.size w w1) := (below1 w _).trans (b1.mono (by simp))
  clear b1
  go_wp2_with fail
  refine (spec_next _ _ _ _).mono ?_; rintro e w2 ⟨rfl, b2⟩
  have X2 := Lib.hid (X1.out.below b2)
  have B2 := Lib.hid (below_then B1.out b2)
  clear b2
  have c0 : w2.cell? ⟨w.heap.size, 0, none⟩ = some (.int .i64 l) := X2.out.cell 0
  have c1 : w2.cell? ⟨w.heap.size, 1, none⟩ = some (.int .i64 r) := X2.out.cell 1
  have c2 : w2.cell? ⟨w.heap.size, 2, none⟩ = some (.int .i64 f) := X2.out.cell 2
  go_wp2_with fail
  refine (toTimer_any _ _ _ _).mono ?_; rintro e w3 ⟨rfl, b3⟩
  have B3 := Lib.hid (below_then B2.out b3)
  clear b3 c0 c1 c2
  go_wp2_with fail
  refine (impl_next _ _ _ _).mono ?_; rintro e w4 ⟨rfl, b4⟩
  have B4 := Lib.hid (below_then B3.out b4)
  clear b4
  generalize nxT l r f = V
  go_wp2_with fail
  go_ret
  exact ⟨rfl, B4.out⟩
theorem walk_FnExactTickTimer (l r f : Int) (w : World) : Calls Try.prog 9 #[.agg #[.int .i64 l, .int .i64 r, .int .i64 f]] w fun e w' => e = .returned (.bool true) ∧ Below w.heap.size w w' := by
  go_enter Try.func9, Try.ntmps9
  go_wp2_with fail
  refine (toTimer_any _ _ _ _).mono ?_; rintro e w1 ⟨rfl, b1⟩
  have X1 : Hid (Box w1 w.heap.size 34 [.int .i64 l, .int .i64 r, .int .i64 f]) := (Box.new w _ _).below b1
  have B1 : Hid (Below w.heap.size w w1) := (below1 w _).trans (b1.mono (by simp))
  clear b1
  go_wp2_with fail
  refine (spec_tick _ _ _ _).mono ?_; rintro e w2 ⟨rfl, b2⟩
  have X2 := Lib.hid ((X1.out.below b2).alloc (.cells #[.int .i64 (sL l r f 1), .int .i64 (sR l r f 1), .int .i64 (sF l r f 1)] 24))
  have Y2 : Hid (Box (w2.alloc (.cells #[.int .i64 (sL l r f 1), .int .i64 (sR l r f 1), .int .i64 (sF l r f 1)] 24)) w2.heap.size 24 [.int .i64 (sL l r f 1), .int .i64 (sR l r f 1), .int .i64 (sF l r f 1)]) := Box.new w2 _ _
  have B2 := Lib.hid ((below_then B1.out b2).alloc (below_then B1.out b2).size (.cells #[.int .i64 (sL l r f 1), .int .i64 (sR l r f 1), .int .i64 (sF l r f 1)] 24))
  clear b2
  have c0 : (w2.alloc (.cells #[.int .i64 (sL l r f 1), .int .i64 (sR l r f 1), .int .i64 (sF l r f 1)] 24)).cell? ⟨w.heap.size, 0, none⟩ = some (.int .i64 l) := X2.out.cell 0
  have c1 : (w2.alloc (.cells #[.int .i64 (sL l r f 1), .int .i64 (sR l r f 1), .int .i64 (sF l r f 1)] 24)).cell? ⟨w.heap.size, 1, none⟩ = some (.int .i64 r) := X2.out.cell 1
  have c2 : (w2.alloc (.cells #[.int .i64 (sL l r f 1), .int .i64 (sR l r f 1), .int .i64 (sF l r f 1)] 24)).cell? ⟨w.heap.size, 2, none⟩ = some (.int .i64 f) := X2.out.cell 2
  go_wp2_with fail
  refine (toTimer_any _ _ _ _).mono ?_; rintro e w3 ⟨rfl, b3⟩
  have B3 := Lib.hid (below_then B2.out b3)
  have Y3 := Lib.hid (Y2.out.below b3)
  clear b3 c0 c1 c2
  go_wp2_with fail
  refine (impl_tick _ _ _ _).mono ?_; rintro e w4 ⟨rfl, b4⟩
  have B4 := Lib.hid (below_then B3.out b4)
  have Y4 := Lib.hid (Y3.out.below b4)
  have Z4 : Hid (Box (w4.alloc (.cells #[.int .i64 (sL l r f 1), .int .i64 (sR l r f 1), .int .i64 (sF l r f 1)] 24)) w2.heap.size 24 [.int .i64 (sL l r f 1), .int .i64 (sR l r f 1), .int .i64 (sF l r f 1)]) := Y4.out.alloc _
  have B5 := Lib.hid (B4.out.alloc B4.out.size (.cells #[.int .i64 (sL l r f 1), .int .i64 (sR l r f 1), .int .i64 (sF l r f 1)] 24))
  have d0 : (w4.alloc (.cells #[.int .i64 (sL l r f 1), .int .i64 (sR l r f 1), .int .i64 (sF l r f 1)] 24)).cell? ⟨w2.heap.size, 0, none⟩ = some (.int .i64 (sL l r f 1)) := Z4.out.cell 0
  have d1 : (w4.alloc (.cells #[.int .i64 (sL l r f 1), .int .i64 (sR l r f 1), .int .i64 (sF l r f 1)] 24)).cell? ⟨w2.heap.size, 1, none⟩ = some (.int .i64 (sR l r f 1)) := Z4.out.cell 1
  have d2 : (w4.alloc (.cells #[.int .i64 (sL l r f 1), .int .i64 (sR l r f 1), .int .i64 (sF l r f 1)] 24)).cell? ⟨w2.heap.size, 2, none⟩ = some (.int .i64 (sF l r f 1)) := Z4.out.cell 2
  clear b4
  go_wp2_with fail
  refine (eqTimer_any _ _ _ _).mono ?_; rintro e w6 ⟨rfl, b6⟩
  have B6 := Lib.hid (below_then B5.out b6)
  clear b6
  go_wp2_with fail
  go_ret
  exact ⟨rfl, B6.out⟩
theorem walk_FnExactSkipTimer (l r f : Int) (n : Int) (w : World) : Calls Try.prog 10 #[.agg #[.int .i64 l, .int .i64 r, .int .i64 f], .int .i64 n] w fun e w' => e = .returned (.bool true) ∧ Below w.heap.size w w' := by
  go_enter Try.func10, Try.ntmps10
  go_wp2_with fail
  refine (toTimer_any _ _ _ _).mono ?_; rintro e w1 ⟨rfl, b1⟩
  have X1 : Hid (Box w1 w.heap.size 34 [.int .i64 l, .int .i64 r, .int .i64 f]) := (Box.new w _ _).below b1
  have B1 : Hid (Below w.heap.size w w1) := (below1 w _).trans (b1.mono (by simp))
  clear b1
  go_wp2_with fail
  refine (spec_skip _ _ _ _ _).mono ?_; rintro e w2 ⟨rfl, b2⟩
  have X2 := Lib.hid ((X1.out.below b2).alloc (.cells #[.int .i64 (sL l r f n), .int .i64 (sR l r f n), .int .i64 (sF l r f n)] 24))
  have Y2 : Hid (Box (w2.alloc (.cells #[.int .i64 (sL l r f n), .int .i64 (sR l r f n), .int .i64 (sF l r f n)] 24)) w2.heap.size 24 [.int .i64 (sL l r f n), .int .i64 (sR l r f n), .int .i64 (sF l r f n)]) := Box.new w2 _ _
  have B2 := Lib.hid ((below_then B1.out b2).alloc (below_then B1.out b2).size (.cells #[.int .i64 (sL l r f n), .int .i64 (sR l r f n), .int .i64 (sF l r f n)] 24))
  clear b2
  have c0 : (w2.alloc (.cells #[.int .i64 (sL l r f n), .int .i64 (sR l r f n), .int .i64 (sF l r f n)] 24)).cell? ⟨w.heap.size, 0, none⟩ = some (.int .i64 l) := X2.out.cell 0
  have c1 : (w2.alloc (.cells #[.int .i64 (sL l r f n), .int .i64 (sR l r f n), .int .i64 (sF l r f n)] 24)).cell? ⟨w.heap.size, 1, none⟩ = some (.int .i64 r) := X2.out.cell 1
  have c2 : (w2.alloc (.cells #[.int .i64 (sL l r f n), .int .i64 (sR l r f n), .int .i64 (sF l r f n)] 24)).cell? ⟨w.heap.size, 2, none⟩ = some (.int .i64 f) := X2.out.cell 2
  go_wp2_with fail
  refine (toTimer_any _ _ _ _).mono ?_; rintro e w3 ⟨rfl, b3⟩
  have B3 := Lib.hid (below_then B2.out b3)
  have Y3 := Lib.hid (Y2.out.below b3)
  clear b3 c0 c1 c2
  go_wp2_with fail
  refine (impl_skip _ _ _ _ _).mono ?_; rintro e w4 ⟨rfl, b4⟩
  have B4 := Lib.hid (below_then B3.out b4)
  have Y4 := Lib.hid (Y3.out.below b4)
  have Z4 : Hid (Box (w4.alloc (.cells #[.int .i64 (sL l r f n), .int .i64 (sR l r f n), .int .i64 (sF l r f n)] 24)) w2.heap.size 24 [.int .i64 (sL l r f n), .int .i64 (sR l r f n), .int .i64 (sF l r f n)]) := Y4.out.alloc _
  have B5 := Lib.hid (B4.out.alloc B4.out.size (.cells #[.int .i64 (sL l r f n), .int .i64 (sR l r f n), .int .i64 (sF l r f n)] 24))
  have d0 : (w4.alloc (.cells #[.int .i64 (sL l r f n), .int .i64 (sR l r f n), .int .i64 (sF l r f n)] 24)).cell? ⟨w2.heap.size, 0, none⟩ = some (.int .i64 (sL l r f n)) := Z4.out.cell 0
  have d1 : (w4.alloc (.cells #[.int .i64 (sL l r f n), .int .i64 (sR l r f n), .int .i64 (sF l r f n)] 24)).cell? ⟨w2.heap.size, 1, none⟩ = some (.int .i64 (sR l r f n)) := Z4.out.cell 1
  have d2 : (w4.alloc (.cells #[.int .i64 (sL l r f n), .int .i64 (sR l r f n), .int .i64 (sF l r f n)] 24)).cell? ⟨w2.heap.size, 2, none⟩ = some (.int .i64 (sF l r f n)) := Z4.out.cell 2
  clear b4
  go_wp2_with fail
  refine (eqTimer_any _ _ _ _).mono ?_; rintro e w6 ⟨rfl, b6⟩
  have B6 := Lib.hid (below_then B5.out b6)
  clear b6
  go_wp2_with fail
  go_ret
  exact ⟨rfl, B6.out⟩
end Go.Proofs.Ytmmngdofbmkmhaa
