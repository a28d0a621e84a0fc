/- The laws of chapter 6, walked. -/
import Derived.Test.YtmmngdofbmkmhaaTimE
import Derived.Test.YtmmngdofbmkmhaaTimM
import Derived.Test.YtmmngdofbmkmhaaLater
import Derived.Deep.DeepCutAuto
namespace Go.Proofs.Ytmmngdofbmkmhaa
open Go.ChangeShapes Go.WideShapes Go.ChangeAt Go.RowKit
set_option linter.unusedVariables false

set_option maxRecDepth 100000 in
set_option maxHeartbeats 4000000 in
theorem walk_FnTimerValid (a0 : Option Addr) (len0 cap0 : Nat) (z0 : List Int) (w : World) (w0 : IsRow .u8 w a0 len0 cap0 z0) :
    Calls Try.prog 3 #[.slice a0 len0 cap0] w fun e w' => e = .returned (.bool true) ∧ Below w.heap.size w w' := by
  have H := Lib.hid w0
  have hl := isRow_len w0
  clear w0
  by_cases hs : len0 ≤ 1048576
  · go_enter Try.func3, Try.ntmps3
    go_wp2_with fail
    refine (draw_timValid _ _ _ _ _ H.out).mono ?_; rintro e w1 ⟨l, r, f, rfl, hl1, hr1, hf1, b1⟩
    obtain ⟨WX, hWX⟩ : ∃ WX, WX = w1.alloc (.cells #[.int .i64 l, .int .i64 r, .int .i64 f] 24) := ⟨_, rfl⟩
    have B1 : Hid (Below w.heap.size w WX) := by rw [hWX]; exact b1.alloc b1.size _
    have X1 : Hid (Box WX w1.heap.size 24 [.int .i64 l, .int .i64 r, .int .i64 f]) := by rw [hWX]; exact Box.new w1 _ _
    clear b1
    go_upto_region 4 with (fail)
    rw [← hWX]
    generalize w1.heap.size = bt at X1
    clear hWX
    have c0 : WX.cell? ⟨bt, 0, none⟩ = some (.int .i64 l) := X1.out.cell 0
    have c1 : WX.cell? ⟨bt, 1, none⟩ = some (.int .i64 r) := X1.out.cell 1
    have c2 : WX.cell? ⟨bt, 2, none⟩ = some (.int .i64 f) := X1.out.cell 2
    
    go_wp2_with fail
    refine (impl_timValid _ _ _ _).mono ?_; rintro e w2 ⟨rfl, b2⟩
    have X2 := Lib.hid (X1.out.below b2)
    have B2 := Lib.hid (below_then B1.out b2)
    clear b2 c0 c1 c2 X1 B1
    have c0 : w2.cell? ⟨bt, 0, none⟩ = some (.int .i64 l) := X2.out.cell 0
    have c1 : w2.cell? ⟨bt, 1, none⟩ = some (.int .i64 r) := X2.out.cell 1
    have c2 : w2.cell? ⟨bt, 2, none⟩ = some (.int .i64 f) := X2.out.cell 2
    
    go_wp2_with fail
    refine (spec_timValid _ _ _ _).mono ?_; rintro e w3 ⟨rfl, b3⟩
    have X3 := Lib.hid (X2.out.below b3)
    have B3 := Lib.hid (below_then B2.out b3)
    clear b3 c0 c1 c2 X2 B2
    generalize timB l r f = V
    have c0 : w3.cell? ⟨bt, 0, none⟩ = some (.int .i64 l) := X3.out.cell 0
    have c1 : w3.cell? ⟨bt, 1, none⟩ = some (.int .i64 r) := X3.out.cell 1
    have c2 : w3.cell? ⟨bt, 2, none⟩ = some (.int .i64 f) := X3.out.cell 2
    
    have XA := Lib.hid (X3.out.alloc (.cells #[.int .i64 (-1), .int .i64 r, .int .i64 f] 24))
    have d0 : (w3.alloc (.cells #[.int .i64 (-1), .int .i64 r, .int .i64 f] 24)).cell? ⟨bt, 0, none⟩ = some (.int .i64 l) := XA.out.cell 0
    have d1 : (w3.alloc (.cells #[.int .i64 (-1), .int .i64 r, .int .i64 f] 24)).cell? ⟨bt, 1, none⟩ = some (.int .i64 r) := XA.out.cell 1
    have d2 : (w3.alloc (.cells #[.int .i64 (-1), .int .i64 r, .int .i64 f] 24)).cell? ⟨bt, 2, none⟩ = some (.int .i64 f) := XA.out.cell 2
    
    go_upto_region 11 with (fail)
    have YA : Hid (Box ((w3.alloc (.cells #[.int .i64 (-1), .int .i64 r, .int .i64 f] 24)).alloc (.cells #[.int .i64 l, .int .i64 1001, .int .i64 f] 24)) w3.heap.size 24 [.int .i64 (-1), .int .i64 r, .int .i64 f]) := (Box.new w3 _ _).alloc _
    have YB : Hid (Box ((w3.alloc (.cells #[.int .i64 (-1), .int .i64 r, .int .i64 f] 24)).alloc (.cells #[.int .i64 l, .int .i64 1001, .int .i64 f] 24)) (w3.heap.size + 1) 24 [.int .i64 l, .int .i64 1001, .int .i64 f]) := Box.new_at _ _ _ _ (by simp)
    have BW := Lib.hid ((B3.out.alloc B3.out.size (.cells #[.int .i64 (-1), .int .i64 r, .int .i64 f] 24)).alloc (B3.out.alloc B3.out.size (.cells #[.int .i64 (-1), .int .i64 r, .int .i64 f] 24)).size (.cells #[.int .i64 l, .int .i64 1001, .int .i64 f] 24))
    clear c0 c1 c2 d0 d1 d2 XA
    generalize (w3.alloc (.cells #[.int .i64 (-1), .int .i64 r, .int .i64 f] 24)).alloc (.cells #[.int .i64 l, .int .i64 1001, .int .i64 f] 24) = W at YA YB BW ⊢
    generalize w3.heap.size = b3 at YA YB ⊢
    have c0 : W.cell? ⟨b3, 0, none⟩ = some (.int .i64 (-1)) := YA.out.cell 0
    have c1 : W.cell? ⟨b3, 1, none⟩ = some (.int .i64 r) := YA.out.cell 1
    have c2 : W.cell? ⟨b3, 2, none⟩ = some (.int .i64 f) := YA.out.cell 2
    
    go_wp2_with fail
    refine (impl_timValid _ _ _ _).mono ?_; rintro e w4 ⟨rfl, b4⟩
    rw [timB_left]
    have YB4 := Lib.hid (YB.out.below b4)
    have B4 := Lib.hid (below_then BW.out b4)
    clear b4 c0 c1 c2
    have c0 : w4.cell? ⟨(b3 + 1), 0, none⟩ = some (.int .i64 l) := YB4.out.cell 0
    have c1 : w4.cell? ⟨(b3 + 1), 1, none⟩ = some (.int .i64 1001) := YB4.out.cell 1
    have c2 : w4.cell? ⟨(b3 + 1), 2, none⟩ = some (.int .i64 f) := YB4.out.cell 2
    
    go_wp2_with fail
    refine (impl_timValid _ _ _ _).mono ?_; rintro e w5 ⟨rfl, b5⟩
    rw [timB_reload]
    have B5 := Lib.hid (below_then B4.out b5)
    clear b5 c0 c1 c2
    go_wp2_with fail
    refine (alive_any _).mono ?_; rintro e w' ⟨rfl, rfl⟩
    go_wp2_with fail
    go_ret
    exact ⟨rfl, B5.out⟩
  · have hs' : 1048576 < len0 := by omega
    go_enter Try.func3, Try.ntmps3
    go_wp2_with fail
    go_ret
    exact ⟨rfl, Below.refl _ _⟩
set_option maxRecDepth 100000 in
set_option maxHeartbeats 4000000 in
theorem walk_FnTickTimer (a0 : Option Addr) (len0 cap0 : Nat) (z0 : List Int) (w : World) (w0 : IsRow .u8 w a0 len0 cap0 z0) :
    Calls Try.prog 4 #[.slice a0 len0 cap0] w fun e w' => e = .returned (.bool true) ∧ Below w.heap.size w w' := by
  have H := Lib.hid w0
  have hl := isRow_len w0
  clear w0
  by_cases hs : len0 ≤ 1048576
  · go_enter Try.func4, Try.ntmps4
    go_wp2_with fail
    refine (draw_tick _ _ _ _ _ H.out).mono ?_; rintro e w1 ⟨l, r, f, rfl, hl1, hr1, hf1, b1⟩
    obtain ⟨WX, hWX⟩ : ∃ WX, WX = w1.alloc (.cells #[.int .i64 l, .int .i64 r, .int .i64 f] 24) := ⟨_, rfl⟩
    have B1 : Hid (Below w.heap.size w WX) := by rw [hWX]; exact b1.alloc b1.size _
    have X1 : Hid (Box WX w1.heap.size 24 [.int .i64 l, .int .i64 r, .int .i64 f]) := by rw [hWX]; exact Box.new w1 _ _
    clear b1
    go_upto_region 4 with (fail)
    rw [← hWX]
    generalize w1.heap.size = bt at X1
    clear hWX
    by_cases hv : timB l r f = true
    · have HV := Lib.hid hv
      obtain ⟨⟨l0, l1⟩, ⟨r0, r1⟩, f0, f1⟩ := timB_iff.1 hv
      by_cases h0 : l = 0
      · subst h0
        have E : Hid (sL 0 r f 1 = r ∧ sR 0 r f 1 = r ∧ sF 0 r f 1 = f + 1) := by
          obtain ⟨a, b, c⟩ := sk_ok (n := 1) hv (by omega) (by omega)
          exact ⟨a.trans (tick_zero (f := f)).1, b, c.trans tick_zero.2⟩
        have HX := Lib.hid (show timB r r (f + 1) = true from timB_iff.2 ⟨⟨r0, r1⟩, ⟨r0, r1⟩, by omega, by omega⟩)
        clear hv
        have c0 : WX.cell? ⟨bt, 0, none⟩ = some (.int .i64 0) := X1.out.cell 0
        have c1 : WX.cell? ⟨bt, 1, none⟩ = some (.int .i64 r) := X1.out.cell 1
        have c2 : WX.cell? ⟨bt, 2, none⟩ = some (.int .i64 f) := X1.out.cell 2
        
        go_wp2_with fail
        refine (skip_at (impl_tick _ _ _ _) E.out).mono ?_; rintro e w2 ⟨rfl, b2⟩
        obtain ⟨W2, hW2⟩ : ∃ W2, W2 = w2.alloc (.cells #[.int .i64 r, .int .i64 r, .int .i64 (f + 1)] 24) := ⟨_, rfl⟩
        have X2 : Hid (Box W2 bt 24 [.int .i64 0, .int .i64 r, .int .i64 f]) := by rw [hW2]; exact (X1.out.below b2).alloc _
        have Y2 : Hid (Box W2 w2.heap.size 24 [.int .i64 r, .int .i64 r, .int .i64 (f + 1)]) := by rw [hW2]; exact Box.new w2 _ _
        have B2 : Hid (Below w.heap.size w W2) := by rw [hW2]; exact (below_then B1.out b2).alloc (below_then B1.out b2).size _
        clear b2 c0 c1 c2 X1 B1
        go_upto_region 5 with (fail)
        rw [← hW2]
        clear hW2
        generalize w2.heap.size = bx at Y2 ⊢
        have VS : Hid (∀ u : Later W2, Calls Try.prog 18 #[(.agg #[.int .i64 0, .int .i64 r, .int .i64 f])] u.now fun e w' => e = .returned (.agg #[.int .i64 r, .int .i64 r, .int .i64 (f + 1)]) ∧ Below u.now.heap.size u.now w') := fun u => skip_at (spec_tick _ _ _ _) E.out
        have c0 : ∀ u : Later W2, u.now.cell? ⟨bt, 0, none⟩ = some (.int .i64 0) := later_cell (X2.out.cell 0)
        have c1 : ∀ u : Later W2, u.now.cell? ⟨bt, 1, none⟩ = some (.int .i64 r) := later_cell (X2.out.cell 1)
        have c2 : ∀ u : Later W2, u.now.cell? ⟨bt, 2, none⟩ = some (.int .i64 f) := later_cell (X2.out.cell 2)
        have d0 : ∀ u : Later W2, u.now.cell? ⟨bx, 0, none⟩ = some (.int .i64 r) := later_cell (Y2.out.cell 0)
        have d1 : ∀ u : Later W2, u.now.cell? ⟨bx, 1, none⟩ = some (.int .i64 r) := later_cell (Y2.out.cell 1)
        have d2 : ∀ u : Later W2, u.now.cell? ⟨bx, 2, none⟩ = some (.int .i64 (f + 1)) := later_cell (Y2.out.cell 2)
        
        refine wp_region_later (by kernel_rfl) (by kernel_rfl) ?_
        repeat (go_big_quiet_step ((first
          | (go_at_call 18; exact Calls.later (VS.out _)))))
        refine wpQuiet_nil ?_
        rintro _ ⟨u, rfl⟩
        have X3 := Lib.hid (X2.out.below u.below)
        have Y3 := Lib.hid (Y2.out.below u.below)
        have B3 := Lib.hid (below_then B2.out u.below)
        clear c0 c1 c2 d0 d1 d2 VS X2 Y2 B2
        generalize u.now = w3 at X3 Y3 B3
        have c0 : w3.cell? ⟨bt, 0, none⟩ = some (.int .i64 0) := X3.out.cell 0
        have c1 : w3.cell? ⟨bt, 1, none⟩ = some (.int .i64 r) := X3.out.cell 1
        have c2 : w3.cell? ⟨bt, 2, none⟩ = some (.int .i64 f) := X3.out.cell 2
        
        go_wp2_with fail
        refine (spec_timValid _ _ _ _).mono ?_; rintro e w4 ⟨rfl, b4⟩
        rw [HV.out]
        have X4 := Lib.hid (X3.out.below b4)
        have Y4 := Lib.hid (Y3.out.below b4)
        have B4 := Lib.hid (below_then B3.out b4)
        clear b4 c0 c1 c2 X3 Y3 B3
        have d0 : w4.cell? ⟨bx, 0, none⟩ = some (.int .i64 r) := Y4.out.cell 0
        have d1 : w4.cell? ⟨bx, 1, none⟩ = some (.int .i64 r) := Y4.out.cell 1
        have d2 : w4.cell? ⟨bx, 2, none⟩ = some (.int .i64 (f + 1)) := Y4.out.cell 2
        
        go_wp2_with fail
        refine (impl_timValid _ _ _ _).mono ?_; rintro e w5 ⟨rfl, b5⟩
        rw [HX.out]
        have X5 := Lib.hid (X4.out.below b5)
        have Y5 := Lib.hid (Y4.out.below b5)
        have B5 := Lib.hid (below_then B4.out b5)
        clear b5 d0 d1 d2
        have c0 : w5.cell? ⟨bt, 0, none⟩ = some (.int .i64 0) := X5.out.cell 0
        have c1 : w5.cell? ⟨bt, 1, none⟩ = some (.int .i64 r) := X5.out.cell 1
        have c2 : w5.cell? ⟨bt, 2, none⟩ = some (.int .i64 f) := X5.out.cell 2
        have d0 : w5.cell? ⟨bx, 0, none⟩ = some (.int .i64 r) := Y5.out.cell 0
        have d1 : w5.cell? ⟨bx, 1, none⟩ = some (.int .i64 r) := Y5.out.cell 1
        have d2 : w5.cell? ⟨bx, 2, none⟩ = some (.int .i64 (f + 1)) := Y5.out.cell 2
        
        go_wp2_with fail
        go_ret
        exact ⟨rfl, B5.out⟩
      · have hz : (l == 0) = false := by simpa using h0
        have hf : (f == f + 1) = false := by simp; omega
        have E : Hid (sL l r f 1 = l - 1 ∧ sR l r f 1 = r ∧ sF l r f 1 = f) := by
          obtain ⟨a, b, c⟩ := sk_ok (n := 1) hv (by omega) (by omega)
          have hp : 0 < l := by omega
          exact ⟨a.trans (tick_pos (f := f) hp).1, b, c.trans (tick_pos hp).2⟩
        have HX := Lib.hid (show timB (l - 1) r f = true from timB_iff.2 ⟨⟨by omega, by omega⟩, ⟨r0, r1⟩, by omega, by omega⟩)
        clear hv h0
        have c0 : WX.cell? ⟨bt, 0, none⟩ = some (.int .i64 l) := X1.out.cell 0
        have c1 : WX.cell? ⟨bt, 1, none⟩ = some (.int .i64 r) := X1.out.cell 1
        have c2 : WX.cell? ⟨bt, 2, none⟩ = some (.int .i64 f) := X1.out.cell 2
        
        go_wp2_with fail
        refine (skip_at (impl_tick _ _ _ _) E.out).mono ?_; rintro e w2 ⟨rfl, b2⟩
        obtain ⟨W2, hW2⟩ : ∃ W2, W2 = w2.alloc (.cells #[.int .i64 (l - 1), .int .i64 r, .int .i64 f] 24) := ⟨_, rfl⟩
        have X2 : Hid (Box W2 bt 24 [.int .i64 l, .int .i64 r, .int .i64 f]) := by rw [hW2]; exact (X1.out.below b2).alloc _
        have Y2 : Hid (Box W2 w2.heap.size 24 [.int .i64 (l - 1), .int .i64 r, .int .i64 f]) := by rw [hW2]; exact Box.new w2 _ _
        have B2 : Hid (Below w.heap.size w W2) := by rw [hW2]; exact (below_then B1.out b2).alloc (below_then B1.out b2).size _
        clear b2 c0 c1 c2 X1 B1
        go_upto_region 5 with (fail)
        rw [← hW2]
        clear hW2
        generalize w2.heap.size = bx at Y2 ⊢
        have VS : Hid (∀ u : Later W2, Calls Try.prog 18 #[(.agg #[.int .i64 l, .int .i64 r, .int .i64 f])] u.now fun e w' => e = .returned (.agg #[.int .i64 (l - 1), .int .i64 r, .int .i64 f]) ∧ Below u.now.heap.size u.now w') := fun u => skip_at (spec_tick _ _ _ _) E.out
        have c0 : ∀ u : Later W2, u.now.cell? ⟨bt, 0, none⟩ = some (.int .i64 l) := later_cell (X2.out.cell 0)
        have c1 : ∀ u : Later W2, u.now.cell? ⟨bt, 1, none⟩ = some (.int .i64 r) := later_cell (X2.out.cell 1)
        have c2 : ∀ u : Later W2, u.now.cell? ⟨bt, 2, none⟩ = some (.int .i64 f) := later_cell (X2.out.cell 2)
        have d0 : ∀ u : Later W2, u.now.cell? ⟨bx, 0, none⟩ = some (.int .i64 (l - 1)) := later_cell (Y2.out.cell 0)
        have d1 : ∀ u : Later W2, u.now.cell? ⟨bx, 1, none⟩ = some (.int .i64 r) := later_cell (Y2.out.cell 1)
        have d2 : ∀ u : Later W2, u.now.cell? ⟨bx, 2, none⟩ = some (.int .i64 f) := later_cell (Y2.out.cell 2)
        
        refine wp_region_later (by kernel_rfl) (by kernel_rfl) ?_
        repeat (go_big_quiet_step ((first
          | (go_at_call 18; exact Calls.later (VS.out _)))))
        refine wpQuiet_nil ?_
        rintro _ ⟨u, rfl⟩
        have X3 := Lib.hid (X2.out.below u.below)
        have Y3 := Lib.hid (Y2.out.below u.below)
        have B3 := Lib.hid (below_then B2.out u.below)
        clear c0 c1 c2 d0 d1 d2 VS X2 Y2 B2
        generalize u.now = w3 at X3 Y3 B3
        have c0 : w3.cell? ⟨bt, 0, none⟩ = some (.int .i64 l) := X3.out.cell 0
        have c1 : w3.cell? ⟨bt, 1, none⟩ = some (.int .i64 r) := X3.out.cell 1
        have c2 : w3.cell? ⟨bt, 2, none⟩ = some (.int .i64 f) := X3.out.cell 2
        
        go_wp2_with fail
        refine (spec_timValid _ _ _ _).mono ?_; rintro e w4 ⟨rfl, b4⟩
        rw [HV.out]
        have X4 := Lib.hid (X3.out.below b4)
        have Y4 := Lib.hid (Y3.out.below b4)
        have B4 := Lib.hid (below_then B3.out b4)
        clear b4 c0 c1 c2 X3 Y3 B3
        have d0 : w4.cell? ⟨bx, 0, none⟩ = some (.int .i64 (l - 1)) := Y4.out.cell 0
        have d1 : w4.cell? ⟨bx, 1, none⟩ = some (.int .i64 r) := Y4.out.cell 1
        have d2 : w4.cell? ⟨bx, 2, none⟩ = some (.int .i64 f) := Y4.out.cell 2
        
        go_wp2_with fail
        refine (impl_timValid _ _ _ _).mono ?_; rintro e w5 ⟨rfl, b5⟩
        rw [HX.out]
        have X5 := Lib.hid (X4.out.below b5)
        have Y5 := Lib.hid (Y4.out.below b5)
        have B5 := Lib.hid (below_then B4.out b5)
        clear b5 d0 d1 d2
        have c0 : w5.cell? ⟨bt, 0, none⟩ = some (.int .i64 l) := X5.out.cell 0
        have c1 : w5.cell? ⟨bt, 1, none⟩ = some (.int .i64 r) := X5.out.cell 1
        have c2 : w5.cell? ⟨bt, 2, none⟩ = some (.int .i64 f) := X5.out.cell 2
        have d0 : w5.cell? ⟨bx, 0, none⟩ = some (.int .i64 (l - 1)) := Y5.out.cell 0
        have d1 : w5.cell? ⟨bx, 1, none⟩ = some (.int .i64 r) := Y5.out.cell 1
        have d2 : w5.cell? ⟨bx, 2, none⟩ = some (.int .i64 f) := Y5.out.cell 2
        
        go_wp2_with fail
        go_ret
        exact ⟨rfl, B5.out⟩
    · have HV := Lib.hid (show timB l r f = false by simpa using hv)
      have E : Hid (sL l r f 1 = 0 ∧ sR l r f 1 = 0 ∧ sF l r f 1 = 0) := sk_bad (.inl HV.out)
      clear hv
      have c0 : WX.cell? ⟨bt, 0, none⟩ = some (.int .i64 l) := X1.out.cell 0
      have c1 : WX.cell? ⟨bt, 1, none⟩ = some (.int .i64 r) := X1.out.cell 1
      have c2 : WX.cell? ⟨bt, 2, none⟩ = some (.int .i64 f) := X1.out.cell 2
      
      go_wp2_with fail
      refine (skip_at (impl_tick _ _ _ _) E.out).mono ?_; rintro e w2 ⟨rfl, b2⟩
      obtain ⟨W2, hW2⟩ : ∃ W2, W2 = w2.alloc (.cells #[.int .i64 0, .int .i64 0, .int .i64 0] 24) := ⟨_, rfl⟩
      have X2 : Hid (Box W2 bt 24 [.int .i64 l, .int .i64 r, .int .i64 f]) := by rw [hW2]; exact (X1.out.below b2).alloc _
      have Y2 : Hid (Box W2 w2.heap.size 24 [.int .i64 0, .int .i64 0, .int .i64 0]) := by rw [hW2]; exact Box.new w2 _ _
      have B2 : Hid (Below w.heap.size w W2) := by rw [hW2]; exact (below_then B1.out b2).alloc (below_then B1.out b2).size _
      clear b2 c0 c1 c2 X1 B1
      go_upto_region 5 with (fail)
      rw [← hW2]
      clear hW2
      generalize w2.heap.size = bx at Y2 ⊢
      have VS : Hid (∀ u : Later W2, Calls Try.prog 18 #[(.agg #[.int .i64 l, .int .i64 r, .int .i64 f])] u.now fun e w' => e = .returned (.agg #[.int .i64 0, .int .i64 0, .int .i64 0]) ∧ Below u.now.heap.size u.now w') := fun u => skip_at (spec_tick _ _ _ _) E.out
      have c0 : ∀ u : Later W2, u.now.cell? ⟨bt, 0, none⟩ = some (.int .i64 l) := later_cell (X2.out.cell 0)
      have c1 : ∀ u : Later W2, u.now.cell? ⟨bt, 1, none⟩ = some (.int .i64 r) := later_cell (X2.out.cell 1)
      have c2 : ∀ u : Later W2, u.now.cell? ⟨bt, 2, none⟩ = some (.int .i64 f) := later_cell (X2.out.cell 2)
      have d0 : ∀ u : Later W2, u.now.cell? ⟨bx, 0, none⟩ = some (.int .i64 0) := later_cell (Y2.out.cell 0)
      have d1 : ∀ u : Later W2, u.now.cell? ⟨bx, 1, none⟩ = some (.int .i64 0) := later_cell (Y2.out.cell 1)
      have d2 : ∀ u : Later W2, u.now.cell? ⟨bx, 2, none⟩ = some (.int .i64 0) := later_cell (Y2.out.cell 2)
      
      refine wp_region_later (by kernel_rfl) (by kernel_rfl) ?_
      repeat (go_big_quiet_step ((first
        | (go_at_call 18; exact Calls.later (VS.out _)))))
      refine wpQuiet_nil ?_
      rintro _ ⟨u, rfl⟩
      have X3 := Lib.hid (X2.out.below u.below)
      have Y3 := Lib.hid (Y2.out.below u.below)
      have B3 := Lib.hid (below_then B2.out u.below)
      clear c0 c1 c2 d0 d1 d2 VS X2 Y2 B2
      generalize u.now = w3 at X3 Y3 B3
      have c0 : w3.cell? ⟨bt, 0, none⟩ = some (.int .i64 l) := X3.out.cell 0
      have c1 : w3.cell? ⟨bt, 1, none⟩ = some (.int .i64 r) := X3.out.cell 1
      have c2 : w3.cell? ⟨bt, 2, none⟩ = some (.int .i64 f) := X3.out.cell 2
      
      go_wp2_with fail
      refine (spec_timValid _ _ _ _).mono ?_; rintro e w4 ⟨rfl, b4⟩
      rw [HV.out]
      have X4 := Lib.hid (X3.out.below b4)
      have Y4 := Lib.hid (Y3.out.below b4)
      have B4 := Lib.hid (below_then B3.out b4)
      clear b4 c0 c1 c2 X3 Y3 B3
      have d0 : w4.cell? ⟨bx, 0, none⟩ = some (.int .i64 0) := Y4.out.cell 0
      have d1 : w4.cell? ⟨bx, 1, none⟩ = some (.int .i64 0) := Y4.out.cell 1
      have d2 : w4.cell? ⟨bx, 2, none⟩ = some (.int .i64 0) := Y4.out.cell 2
      
      go_wp2_with fail
      refine (alive_any _).mono ?_; rintro e w' ⟨rfl, rfl⟩
      go_wp2_with fail
      go_ret
      exact ⟨rfl, B4.out⟩
  · have hs' : 1048576 < len0 := by omega
    go_enter Try.func4, Try.ntmps4
    go_wp2_with fail
    go_ret
    exact ⟨rfl, Below.refl _ _⟩
set_option maxRecDepth 100000 in
set_option maxHeartbeats 4000000 in
theorem walk_FnNextFire (a0 : Option Addr) (len0 cap0 : Nat) (z0 : List Int) (w : World) (w0 : IsRow .u8 w a0 len0 cap0 z0) :
    Calls Try.prog 6 #[.slice a0 len0 cap0] w fun e w' => e = .returned (.bool true) ∧ Below w.heap.size w w' := by
  have H := Lib.hid w0
  have hl := isRow_len w0
  clear w0
  by_cases hs : len0 ≤ 1048576
  · go_enter Try.func6, Try.ntmps6
    go_wp2_with fail
    refine (draw_next _ _ _ _ _ H.out).mono ?_; rintro e w1 ⟨l, r, f, rfl, hl1, hr1, hf1, b1⟩
    obtain ⟨WX, hWX⟩ : ∃ WX, WX = w1.alloc (.cells #[.int .i64 l, .int .i64 r, .int .i64 f] 24) := ⟨_, rfl⟩
    have B1 : Hid (Below w.heap.size w WX) := by rw [hWX]; exact b1.alloc b1.size _
    have X1 : Hid (Box WX w1.heap.size 24 [.int .i64 l, .int .i64 r, .int .i64 f]) := by rw [hWX]; exact Box.new w1 _ _
    clear b1
    go_upto_region 4 with (fail)
    rw [← hWX]
    generalize w1.heap.size = bt at X1
    clear hWX
    by_cases hv : timB l r f = true
    · have HV := Lib.hid hv
      obtain ⟨⟨l0, l1⟩, ⟨r0, r1⟩, f0, f1⟩ := timB_iff.1 hv
      have NX := Lib.hid (show nxT l r f = l + 1 from if_pos hv)
      have E1 : Hid (sL l r f l = 0 ∧ sR l r f l = r ∧ sF l r f l = f) := by
        obtain ⟨a, b, c⟩ := sk_ok (n := l) hv (by omega) (by omega)
        refine ⟨a.trans ?_, b, c.trans (fire_before l r f)⟩
        unfold skL; rw [if_pos (by omega)]; omega
      have E2 : Hid (sL l r f (l + 1) = r ∧ sR l r f (l + 1) = r ∧ sF l r f (l + 1) = f + 1) := by
        obtain ⟨a, b, c⟩ := sk_ok (n := l + 1) hv (by omega) (by omega)
        refine ⟨a.trans ?_, b, c.trans (fire_at l r f)⟩
        unfold skL; rw [if_neg (by omega), show l + 1 - l - 1 = 0 by omega]; simp
      have hlt : decide (l + 1 < 0) = false := by simp; omega
      have hge : 1 ≤ l + 1 := by omega
      clear hv
      have c0 : WX.cell? ⟨bt, 0, none⟩ = some (.int .i64 l) := X1.out.cell 0
      have c1 : WX.cell? ⟨bt, 1, none⟩ = some (.int .i64 r) := X1.out.cell 1
      have c2 : WX.cell? ⟨bt, 2, none⟩ = some (.int .i64 f) := X1.out.cell 2
      
      go_wp2_with fail
      refine (impl_next _ _ _ _).mono ?_; rintro e w2 ⟨rfl, b2⟩
      rw [NX.out]
      have X2 := Lib.hid (X1.out.below b2)
      have B2 := Lib.hid (below_then B1.out b2)
      clear b2 c0 c1 c2 X1 B1
      have c0 : w2.cell? ⟨bt, 0, none⟩ = some (.int .i64 l) := X2.out.cell 0
      have c1 : w2.cell? ⟨bt, 1, none⟩ = some (.int .i64 r) := X2.out.cell 1
      have c2 : w2.cell? ⟨bt, 2, none⟩ = some (.int .i64 f) := X2.out.cell 2
      
      go_wp2_with fail
      refine (spec_next _ _ _ _).mono ?_; rintro e w3 ⟨rfl, b3⟩
      rw [NX.out]
      have X3 := Lib.hid (X2.out.below b3)
      have B3 := Lib.hid (below_then B2.out b3)
      clear b3 c0 c1 c2 X2 B2
      
      go_upto_region 9 with (fail)
      have V1 : Hid (∀ u : Later w3, Calls Try.prog 20 #[(.agg #[.int .i64 l, .int .i64 r, .int .i64 f]), .int .i64 l] u.now fun e w' => e = .returned (.agg #[.int .i64 0, .int .i64 r, .int .i64 f]) ∧ Below u.now.heap.size u.now w') := fun u => skip_at (impl_skip _ _ _ _ _) E1.out
      have V2 : Hid (∀ u : Later w3, Calls Try.prog 20 #[(.agg #[.int .i64 l, .int .i64 r, .int .i64 f]), .int .i64 (l + 1)] u.now fun e w' => e = .returned (.agg #[.int .i64 r, .int .i64 r, .int .i64 (f + 1)]) ∧ Below u.now.heap.size u.now w') := fun u => skip_at (impl_skip _ _ _ _ _) E2.out
      have FD := field2
      have c0 : ∀ u : Later w3, u.now.cell? ⟨bt, 0, none⟩ = some (.int .i64 l) := later_cell (X3.out.cell 0)
      have c1 : ∀ u : Later w3, u.now.cell? ⟨bt, 1, none⟩ = some (.int .i64 r) := later_cell (X3.out.cell 1)
      have c2 : ∀ u : Later w3, u.now.cell? ⟨bt, 2, none⟩ = some (.int .i64 f) := later_cell (X3.out.cell 2)
      
      refine wp_region_later (by kernel_rfl) (by kernel_rfl) ?_
      repeat (go_big_quiet_step ((first
        | (go_at_call 20; first | with_reducible exact Calls.later (V1.out _) | with_reducible exact Calls.later (V2.out _)))))
      refine wpQuiet_nil ?_
      rintro _ ⟨u, rfl⟩
      have B4 := Lib.hid (below_then B3.out u.below)
      clear c0 c1 c2 V1 V2 X3 B3 FD
      generalize u.now = w4 at B4
      go_wp2_with fail
      go_ret
      exact ⟨rfl, B4.out⟩
    · have HV := Lib.hid (show timB l r f = false by simpa using hv)
      have NX := Lib.hid (show nxT l r f = -1 from if_neg hv)
      clear hv
      have c0 : WX.cell? ⟨bt, 0, none⟩ = some (.int .i64 l) := X1.out.cell 0
      have c1 : WX.cell? ⟨bt, 1, none⟩ = some (.int .i64 r) := X1.out.cell 1
      have c2 : WX.cell? ⟨bt, 2, none⟩ = some (.int .i64 f) := X1.out.cell 2
      
      go_wp2_with fail
      refine (impl_next _ _ _ _).mono ?_; rintro e w2 ⟨rfl, b2⟩
      rw [NX.out]
      have X2 := Lib.hid (X1.out.below b2)
      have B2 := Lib.hid (below_then B1.out b2)
      clear b2 c0 c1 c2 X1 B1
      have c0 : w2.cell? ⟨bt, 0, none⟩ = some (.int .i64 l) := X2.out.cell 0
      have c1 : w2.cell? ⟨bt, 1, none⟩ = some (.int .i64 r) := X2.out.cell 1
      have c2 : w2.cell? ⟨bt, 2, none⟩ = some (.int .i64 f) := X2.out.cell 2
      
      go_wp2_with fail
      refine (spec_next _ _ _ _).mono ?_; rintro e w3 ⟨rfl, b3⟩
      rw [NX.out]
      have X3 := Lib.hid (X2.out.below b3)
      have B3 := Lib.hid (below_then B2.out b3)
      clear b3 c0 c1 c2 X2 B2
      
      go_wp2_with fail
      refine (alive_any _).mono ?_; rintro e w' ⟨rfl, rfl⟩
      go_wp2_with fail
      go_ret
      exact ⟨rfl, B3.out⟩
  · have hs' : 1048576 < len0 := by omega
    go_enter Try.func6, Try.ntmps6
    go_wp2_with fail
    go_ret
    exact ⟨rfl, Below.refl _ _⟩
end Go.Proofs.Ytmmngdofbmkmhaa
