/- The laws on valid, pressed and read controllers, walked. -/
import Derived.Test.YtjfhdkidefkogaaPadD
import Derived.Test.YtjfhdkidefkogaaPadA
import Derived.Test.YtjfhdkidefkogaaLater
import Derived.Deep.DeepCutAuto
namespace Go.Proofs.Ytjfhdkidefkogaa
open Go.ChangeShapes Go.WideShapes Go.ChangeAt Go.RowKit
set_option linter.unusedVariables false

theorem pad_nine (p t : Int) : padB p t 9 = false := by simp [padB, betB]
theorem pad_big (t r : Int) : padB 256 t r = false := by simp [padB, byteB]
set_option maxRecDepth 100000 in
set_option maxHeartbeats 4000000 in
theorem walk_FnPadValid (a0 : Option Addr) (len0 cap0 : Nat) (z0 : List Int) (w : World) (w0 : IsRow .u8 w a0 len0 cap0 z0) :
    Calls Try.prog 3 #[.slice a0 len0 cap0] w fun e w' => e = .returned (.bool true) ∧ Below w.heap.size w w' := by
  have H := Lib.hid w0
  have hl := isRow_len w0
  clear w0
  by_cases hs : len0 ≤ 1048576
  · go_enter Try.func3, Try.ntmps3
    go_wp2_with fail
    refine (drawPadValid _ _ _ _ _ H.out).mono ?_; rintro e w1 ⟨p, t, r, rfl, hp, ht, hr, b1⟩
    obtain ⟨WX, hWX⟩ : ∃ WX, WX = w1.alloc (.cells #[.int .i64 p, .int .i64 t, .int .i64 r] 24) := ⟨_, rfl⟩
    have B1 : Hid (Below w.heap.size w WX) := by rw [hWX]; exact b1.alloc b1.size _
    have X1 : Hid (Box WX w1.heap.size 24 [.int .i64 p, .int .i64 t, .int .i64 r]) := by rw [hWX]; exact Box.new w1 _ _
    clear b1
    go_upto_region 4 with (fail)
    rw [← hWX]
    generalize w1.heap.size = bt at X1
    clear hWX
    have c0 : WX.cell? ⟨bt, 0, none⟩ = some (.int .i64 p) := X1.out.cell 0
    have c1 : WX.cell? ⟨bt, 1, none⟩ = some (.int .i64 t) := X1.out.cell 1
    have c2 : WX.cell? ⟨bt, 2, none⟩ = some (.int .i64 r) := X1.out.cell 2
    go_wp2_with fail
    refine (impl_padValid _ _ _ _).mono ?_; rintro e w2 ⟨rfl, b2⟩
    have X2 := Lib.hid (X1.out.below b2)
    have B2 := Lib.hid (below_then B1.out b2)
    clear b2 c0 c1 c2 X1 B1
    have c0 : w2.cell? ⟨bt, 0, none⟩ = some (.int .i64 p) := X2.out.cell 0
    have c1 : w2.cell? ⟨bt, 1, none⟩ = some (.int .i64 t) := X2.out.cell 1
    have c2 : w2.cell? ⟨bt, 2, none⟩ = some (.int .i64 r) := X2.out.cell 2
    go_wp2_with fail
    refine (spec_padValid _ _ _ _).mono ?_; rintro e w3 ⟨rfl, b3⟩
    have X3 := Lib.hid (X2.out.below b3)
    have B3 := Lib.hid (below_then B2.out b3)
    clear b3 c0 c1 c2 X2 B2
    generalize padB p t r = V
    have c0 : w3.cell? ⟨bt, 0, none⟩ = some (.int .i64 p) := X3.out.cell 0
    have c1 : w3.cell? ⟨bt, 1, none⟩ = some (.int .i64 t) := X3.out.cell 1
    have c2 : w3.cell? ⟨bt, 2, none⟩ = some (.int .i64 r) := X3.out.cell 2
    have XA := Lib.hid (X3.out.alloc (.cells #[.int .i64 p, .int .i64 t, .int .i64 9] 24))
    have d0 : (w3.alloc (.cells #[.int .i64 p, .int .i64 t, .int .i64 9] 24)).cell? ⟨bt, 0, none⟩ = some (.int .i64 p) := XA.out.cell 0
    have d1 : (w3.alloc (.cells #[.int .i64 p, .int .i64 t, .int .i64 9] 24)).cell? ⟨bt, 1, none⟩ = some (.int .i64 t) := XA.out.cell 1
    have d2 : (w3.alloc (.cells #[.int .i64 p, .int .i64 t, .int .i64 9] 24)).cell? ⟨bt, 2, none⟩ = some (.int .i64 r) := XA.out.cell 2
    go_upto_region 11 with (fail)
    have YA : Hid (Box ((w3.alloc (.cells #[.int .i64 p, .int .i64 t, .int .i64 9] 24)).alloc (.cells #[.int .i64 256, .int .i64 t, .int .i64 r] 24)) w3.heap.size 24 [.int .i64 p, .int .i64 t, .int .i64 9]) := (Box.new w3 _ _).alloc _
    have YB : Hid (Box ((w3.alloc (.cells #[.int .i64 p, .int .i64 t, .int .i64 9] 24)).alloc (.cells #[.int .i64 256, .int .i64 t, .int .i64 r] 24)) (w3.heap.size + 1) 24 [.int .i64 256, .int .i64 t, .int .i64 r]) := Box.new_at _ _ _ _ (by simp)
    have BW := Lib.hid ((B3.out.alloc B3.out.size (.cells #[.int .i64 p, .int .i64 t, .int .i64 9] 24)).alloc (B3.out.alloc B3.out.size (.cells #[.int .i64 p, .int .i64 t, .int .i64 9] 24)).size (.cells #[.int .i64 256, .int .i64 t, .int .i64 r] 24))
    clear c0 c1 c2 d0 d1 d2 XA
    generalize (w3.alloc (.cells #[.int .i64 p, .int .i64 t, .int .i64 9] 24)).alloc (.cells #[.int .i64 256, .int .i64 t, .int .i64 r] 24) = W at YA YB BW ⊢
    generalize w3.heap.size = b3 at YA YB ⊢
    have c0 : W.cell? ⟨b3, 0, none⟩ = some (.int .i64 p) := YA.out.cell 0
    have c1 : W.cell? ⟨b3, 1, none⟩ = some (.int .i64 t) := YA.out.cell 1
    have c2 : W.cell? ⟨b3, 2, none⟩ = some (.int .i64 9) := YA.out.cell 2
    go_wp2_with fail
    refine (impl_padValid _ _ _ _).mono ?_; rintro e w4 ⟨rfl, b4⟩
    rw [pad_nine]
    have YB4 := Lib.hid (YB.out.below b4)
    have B4 := Lib.hid (below_then BW.out b4)
    clear b4 c0 c1 c2
    have c0 : w4.cell? ⟨(b3 + 1), 0, none⟩ = some (.int .i64 256) := YB4.out.cell 0
    have c1 : w4.cell? ⟨(b3 + 1), 1, none⟩ = some (.int .i64 t) := YB4.out.cell 1
    have c2 : w4.cell? ⟨(b3 + 1), 2, none⟩ = some (.int .i64 r) := YB4.out.cell 2
    go_wp2_with fail
    refine (impl_padValid _ _ _ _).mono ?_; rintro e w5 ⟨rfl, b5⟩
    rw [pad_big]
    have B5 := Lib.hid (below_then B4.out b5)
    clear b5 c0 c1 c2
    go_wp2_with fail
    refine (alive_any _).mono ?_; rintro e w' ⟨rfl, rfl⟩
    go_wp2_with fail
    go_ret
    exact ⟨rfl, B5.out⟩
  · have hs' : 1048576 < len0 := by omega
    go_enter Try.func3, Try.ntmps3
    go_wp2_with fail
    go_ret
    exact ⟨rfl, Below.refl _ _⟩
set_option maxRecDepth 100000 in
set_option maxHeartbeats 4000000 in
theorem walk_FnPressPad (a0 : Option Addr) (len0 cap0 : Nat) (z0 : List Int) (w : World) (w0 : IsRow .u8 w a0 len0 cap0 z0) :
    Calls Try.prog 4 #[.slice a0 len0 cap0] w fun e w' => e = .returned (.bool true) ∧ Below w.heap.size w w' := by
  have H := Lib.hid w0
  have hl := isRow_len w0
  clear w0
  by_cases hs : len0 ≤ 1048576
  · go_enter Try.func4, Try.ntmps4
    go_wp2_with fail
    refine (drawPressPad _ _ _ _ _ H.out).mono ?_; rintro e w1 ⟨p, t, r, n, rfl, hp, ht, hr, hn, b1⟩
    obtain ⟨WX, hWX⟩ : ∃ WX, WX = w1.alloc (.cells #[.int .i64 p, .int .i64 t, .int .i64 r] 24) := ⟨_, rfl⟩
    have B1 : Hid (Below w.heap.size w WX) := by rw [hWX]; exact b1.alloc b1.size _
    have X1 : Hid (Box WX w1.heap.size 24 [.int .i64 p, .int .i64 t, .int .i64 r]) := by rw [hWX]; exact Box.new w1 _ _
    clear b1
    go_upto_region 4 with (fail)
    rw [← hWX]
    generalize w1.heap.size = bt at X1
    clear hWX
    by_cases hv : padB p t r = true
    · have HV := Lib.hid hv
      by_cases hb : byteB n = true
      · have HP : Hid (PressTo p t r n n t r) := by
          obtain ⟨x0, x1, x2, h⟩ := press_to p t r n
          obtain ⟨rfl, rfl, rfl⟩ := press_yes h hv hb
          exact h
        have HP2 : Hid (PressTo n t r n n t r) := by
          obtain ⟨x0, x1, x2, h⟩ := press_to n t r n
          obtain ⟨g0, g1, g2⟩ := padB_iff.1 hv
          obtain ⟨rfl, rfl, rfl⟩ := press_yes h (padB_iff.2 ⟨byteB_yes hb, g1, g2⟩) hb
          exact h
        obtain ⟨n0, n1⟩ := byteB_yes hb
        clear hv hb
        have c0 : WX.cell? ⟨bt, 0, none⟩ = some (.int .i64 p) := X1.out.cell 0
        have c1 : WX.cell? ⟨bt, 1, none⟩ = some (.int .i64 t) := X1.out.cell 1
        have c2 : WX.cell? ⟨bt, 2, none⟩ = some (.int .i64 r) := X1.out.cell 2
        go_wp2_with fail
        refine (impl_press _ _ _ _ _ _ _ _ HP.out).mono ?_; rintro e w2 ⟨rfl, b2⟩
        obtain ⟨W2, hW2⟩ : ∃ W2, W2 = w2.alloc (.cells #[.int .i64 n, .int .i64 t, .int .i64 r] 24) := ⟨_, rfl⟩
        have X2 : Hid (Box W2 bt 24 [.int .i64 p, .int .i64 t, .int .i64 r]) := by rw [hW2]; exact (X1.out.below b2).alloc _
        have Y2 : Hid (Box W2 w2.heap.size 24 [.int .i64 n, .int .i64 t, .int .i64 r]) := by rw [hW2]; exact Box.new w2 _ _
        have B2 : Hid (Below w.heap.size w W2) := by rw [hW2]; exact (below_then B1.out b2).alloc (below_then B1.out b2).size _
        clear b2 c0 c1 c2 X1 B1
        go_upto_region 5 with (fail)
        rw [← hW2]
        clear hW2
        generalize w2.heap.size = bx at Y2 ⊢
        have VS : Hid (∀ u : Later W2, Calls Try.prog 20 #[.agg #[.int .i64 p, .int .i64 t, .int .i64 r], .int .i64 n] u.now fun e w' => e = .returned (.agg #[.int .i64 n, .int .i64 t, .int .i64 r]) ∧ Below u.now.heap.size u.now w') := fun u => spec_press _ _ _ _ _ _ _ _ HP.out
        have c0 : ∀ u : Later W2, u.now.cell? ⟨bt, 0, none⟩ = some (.int .i64 p) := later_cell (X2.out.cell 0)
        have c1 : ∀ u : Later W2, u.now.cell? ⟨bt, 1, none⟩ = some (.int .i64 t) := later_cell (X2.out.cell 1)
        have c2 : ∀ u : Later W2, u.now.cell? ⟨bt, 2, none⟩ = some (.int .i64 r) := later_cell (X2.out.cell 2)
        have d0 : ∀ u : Later W2, u.now.cell? ⟨bx, 0, none⟩ = some (.int .i64 n) := later_cell (Y2.out.cell 0)
        have d1 : ∀ u : Later W2, u.now.cell? ⟨bx, 1, none⟩ = some (.int .i64 t) := later_cell (Y2.out.cell 1)
        have d2 : ∀ u : Later W2, u.now.cell? ⟨bx, 2, none⟩ = some (.int .i64 r) := later_cell (Y2.out.cell 2)
        refine wp_region_later (by kernel_rfl) (by kernel_rfl) ?_
        repeat (go_big_quiet_step ((first
          | (go_at_call 20; exact Calls.later (VS.out _)))))
        refine wpQuiet_nil ?_
        rintro _ ⟨u, rfl⟩
        have X3 := Lib.hid (X2.out.below u.below)
        have Y3 := Lib.hid (Y2.out.below u.below)
        have B3 := Lib.hid (below_then B2.out u.below)
        clear c0 c1 c2 d0 d1 d2 VS X2 Y2 B2
        generalize u.now = w3 at X3 Y3 B3
        have c0 : w3.cell? ⟨bt, 0, none⟩ = some (.int .i64 p) := X3.out.cell 0
        have c1 : w3.cell? ⟨bt, 1, none⟩ = some (.int .i64 t) := X3.out.cell 1
        have c2 : w3.cell? ⟨bt, 2, none⟩ = some (.int .i64 r) := X3.out.cell 2
        go_wp2_with fail
        refine (spec_padValid _ _ _ _).mono ?_; rintro e w4 ⟨rfl, b4⟩
        rw [HV.out]
        have X4 := Lib.hid (X3.out.below b4)
        have Y4 := Lib.hid (Y3.out.below b4)
        have B4 := Lib.hid (below_then B3.out b4)
        clear b4 c0 c1 c2 X3 Y3 B3
        have d0 : w4.cell? ⟨bx, 0, none⟩ = some (.int .i64 n) := Y4.out.cell 0
        have d1 : w4.cell? ⟨bx, 1, none⟩ = some (.int .i64 t) := Y4.out.cell 1
        have d2 : w4.cell? ⟨bx, 2, none⟩ = some (.int .i64 r) := Y4.out.cell 2
        go_wp2_with fail
        refine (isByte_yes _ _ n0 n1).mono ?_; rintro e w' ⟨rfl, rfl⟩
        go_upto_region 9 with (fail)
        clear d0 d1 d2
        have c0 : ∀ u : Later w4, u.now.cell? ⟨bt, 0, none⟩ = some (.int .i64 p) := later_cell (X4.out.cell 0)
        have c1 : ∀ u : Later w4, u.now.cell? ⟨bt, 1, none⟩ = some (.int .i64 t) := later_cell (X4.out.cell 1)
        have c2 : ∀ u : Later w4, u.now.cell? ⟨bt, 2, none⟩ = some (.int .i64 r) := later_cell (X4.out.cell 2)
        have d0 : ∀ u : Later w4, u.now.cell? ⟨bx, 0, none⟩ = some (.int .i64 n) := later_cell (Y4.out.cell 0)
        have d1 : ∀ u : Later w4, u.now.cell? ⟨bx, 1, none⟩ = some (.int .i64 t) := later_cell (Y4.out.cell 1)
        have d2 : ∀ u : Later w4, u.now.cell? ⟨bx, 2, none⟩ = some (.int .i64 r) := later_cell (Y4.out.cell 2)
        have VS : Hid (∀ u : Later w4, Calls Try.prog 19 #[.agg #[.int .i64 n, .int .i64 t, .int .i64 r], .int .i64 n] u.now fun e w' => e = .returned (.agg #[.int .i64 n, .int .i64 t, .int .i64 r]) ∧ Below u.now.heap.size u.now w') := fun u => impl_press _ _ _ _ _ _ _ _ HP2.out
        refine wp_region_later (by kernel_rfl) (by kernel_rfl) ?_
        repeat (go_big_quiet_step ((first
          | (go_at_call 19; exact Calls.later (VS.out _)))))
        refine wpQuiet_nil ?_
        rintro _ ⟨u, rfl⟩
        have B9 := Lib.hid (below_then B4.out u.below)
        clear c0 c1 c2 d0 d1 d2 VS
        generalize u.now = w9 at B9
        go_wp2_with fail
        go_ret
        exact ⟨rfl, B9.out⟩
      · have HB := Lib.hid (show byteB n = false by simpa using hb)
        have HBN := Lib.hid (byteB_no HB.out)
        have HP : Hid (PressTo p t r n 0 0 0) := by
          obtain ⟨x0, x1, x2, h⟩ := press_to p t r n
          obtain ⟨rfl, rfl, rfl⟩ := press_no h (.inr HB.out)
          exact h
        clear hv hb
        have c0 : WX.cell? ⟨bt, 0, none⟩ = some (.int .i64 p) := X1.out.cell 0
        have c1 : WX.cell? ⟨bt, 1, none⟩ = some (.int .i64 t) := X1.out.cell 1
        have c2 : WX.cell? ⟨bt, 2, none⟩ = some (.int .i64 r) := X1.out.cell 2
        go_wp2_with fail
        refine (impl_press _ _ _ _ _ _ _ _ HP.out).mono ?_; rintro e w2 ⟨rfl, b2⟩
        obtain ⟨W2, hW2⟩ : ∃ W2, W2 = w2.alloc (.cells #[.int .i64 0, .int .i64 0, .int .i64 0] 24) := ⟨_, rfl⟩
        have X2 : Hid (Box W2 bt 24 [.int .i64 p, .int .i64 t, .int .i64 r]) := by rw [hW2]; exact (X1.out.below b2).alloc _
        have Y2 : Hid (Box W2 w2.heap.size 24 [.int .i64 0, .int .i64 0, .int .i64 0]) := by rw [hW2]; exact Box.new w2 _ _
        have B2 : Hid (Below w.heap.size w W2) := by rw [hW2]; exact (below_then B1.out b2).alloc (below_then B1.out b2).size _
        clear b2 c0 c1 c2 X1 B1
        go_upto_region 5 with (fail)
        rw [← hW2]
        clear hW2
        generalize w2.heap.size = bx at Y2 ⊢
        have VS : Hid (∀ u : Later W2, Calls Try.prog 20 #[.agg #[.int .i64 p, .int .i64 t, .int .i64 r], .int .i64 n] u.now fun e w' => e = .returned (.agg #[.int .i64 0, .int .i64 0, .int .i64 0]) ∧ Below u.now.heap.size u.now w') := fun u => spec_press _ _ _ _ _ _ _ _ HP.out
        have c0 : ∀ u : Later W2, u.now.cell? ⟨bt, 0, none⟩ = some (.int .i64 p) := later_cell (X2.out.cell 0)
        have c1 : ∀ u : Later W2, u.now.cell? ⟨bt, 1, none⟩ = some (.int .i64 t) := later_cell (X2.out.cell 1)
        have c2 : ∀ u : Later W2, u.now.cell? ⟨bt, 2, none⟩ = some (.int .i64 r) := later_cell (X2.out.cell 2)
        have d0 : ∀ u : Later W2, u.now.cell? ⟨bx, 0, none⟩ = some (.int .i64 0) := later_cell (Y2.out.cell 0)
        have d1 : ∀ u : Later W2, u.now.cell? ⟨bx, 1, none⟩ = some (.int .i64 0) := later_cell (Y2.out.cell 1)
        have d2 : ∀ u : Later W2, u.now.cell? ⟨bx, 2, none⟩ = some (.int .i64 0) := later_cell (Y2.out.cell 2)
        refine wp_region_later (by kernel_rfl) (by kernel_rfl) ?_
        repeat (go_big_quiet_step ((first
          | (go_at_call 20; exact Calls.later (VS.out _)))))
        refine wpQuiet_nil ?_
        rintro _ ⟨u, rfl⟩
        have X3 := Lib.hid (X2.out.below u.below)
        have Y3 := Lib.hid (Y2.out.below u.below)
        have B3 := Lib.hid (below_then B2.out u.below)
        clear c0 c1 c2 d0 d1 d2 VS X2 Y2 B2
        generalize u.now = w3 at X3 Y3 B3
        have c0 : w3.cell? ⟨bt, 0, none⟩ = some (.int .i64 p) := X3.out.cell 0
        have c1 : w3.cell? ⟨bt, 1, none⟩ = some (.int .i64 t) := X3.out.cell 1
        have c2 : w3.cell? ⟨bt, 2, none⟩ = some (.int .i64 r) := X3.out.cell 2
        go_wp2_with fail
        refine (spec_padValid _ _ _ _).mono ?_; rintro e w4 ⟨rfl, b4⟩
        rw [HV.out]
        have X4 := Lib.hid (X3.out.below b4)
        have Y4 := Lib.hid (Y3.out.below b4)
        have B4 := Lib.hid (below_then B3.out b4)
        clear b4 c0 c1 c2 X3 Y3 B3
        have d0 : w4.cell? ⟨bx, 0, none⟩ = some (.int .i64 0) := Y4.out.cell 0
        have d1 : w4.cell? ⟨bx, 1, none⟩ = some (.int .i64 0) := Y4.out.cell 1
        have d2 : w4.cell? ⟨bx, 2, none⟩ = some (.int .i64 0) := Y4.out.cell 2
        go_wp2_with fail
        refine (isByte_no _ _ HBN.out).mono ?_; rintro e w' ⟨rfl, rfl⟩
        go_wp2_with fail
        refine (alive_any _).mono ?_; rintro e w' ⟨rfl, rfl⟩
        go_wp2_with fail
        go_ret
        exact ⟨rfl, B4.out⟩
    · have HV := Lib.hid (show padB p t r = false by simpa using hv)
      have HP : Hid (PressTo p t r n 0 0 0) := by
        obtain ⟨x0, x1, x2, h⟩ := press_to p t r n
        obtain ⟨rfl, rfl, rfl⟩ := press_no h (.inl HV.out)
        exact h
      clear hv
      have c0 : WX.cell? ⟨bt, 0, none⟩ = some (.int .i64 p) := X1.out.cell 0
      have c1 : WX.cell? ⟨bt, 1, none⟩ = some (.int .i64 t) := X1.out.cell 1
      have c2 : WX.cell? ⟨bt, 2, none⟩ = some (.int .i64 r) := X1.out.cell 2
      go_wp2_with fail
      refine (impl_press _ _ _ _ _ _ _ _ HP.out).mono ?_; rintro e w2 ⟨rfl, b2⟩
      obtain ⟨W2, hW2⟩ : ∃ W2, W2 = w2.alloc (.cells #[.int .i64 0, .int .i64 0, .int .i64 0] 24) := ⟨_, rfl⟩
      have X2 : Hid (Box W2 bt 24 [.int .i64 p, .int .i64 t, .int .i64 r]) := by rw [hW2]; exact (X1.out.below b2).alloc _
      have Y2 : Hid (Box W2 w2.heap.size 24 [.int .i64 0, .int .i64 0, .int .i64 0]) := by rw [hW2]; exact Box.new w2 _ _
      have B2 : Hid (Below w.heap.size w W2) := by rw [hW2]; exact (below_then B1.out b2).alloc (below_then B1.out b2).size _
      clear b2 c0 c1 c2 X1 B1
      go_upto_region 5 with (fail)
      rw [← hW2]
      clear hW2
      generalize w2.heap.size = bx at Y2 ⊢
      have VS : Hid (∀ u : Later W2, Calls Try.prog 20 #[.agg #[.int .i64 p, .int .i64 t, .int .i64 r], .int .i64 n] u.now fun e w' => e = .returned (.agg #[.int .i64 0, .int .i64 0, .int .i64 0]) ∧ Below u.now.heap.size u.now w') := fun u => spec_press _ _ _ _ _ _ _ _ HP.out
      have c0 : ∀ u : Later W2, u.now.cell? ⟨bt, 0, none⟩ = some (.int .i64 p) := later_cell (X2.out.cell 0)
      have c1 : ∀ u : Later W2, u.now.cell? ⟨bt, 1, none⟩ = some (.int .i64 t) := later_cell (X2.out.cell 1)
      have c2 : ∀ u : Later W2, u.now.cell? ⟨bt, 2, none⟩ = some (.int .i64 r) := later_cell (X2.out.cell 2)
      have d0 : ∀ u : Later W2, u.now.cell? ⟨bx, 0, none⟩ = some (.int .i64 0) := later_cell (Y2.out.cell 0)
      have d1 : ∀ u : Later W2, u.now.cell? ⟨bx, 1, none⟩ = some (.int .i64 0) := later_cell (Y2.out.cell 1)
      have d2 : ∀ u : Later W2, u.now.cell? ⟨bx, 2, none⟩ = some (.int .i64 0) := later_cell (Y2.out.cell 2)
      refine wp_region_later (by kernel_rfl) (by kernel_rfl) ?_
      repeat (go_big_quiet_step ((first
        | (go_at_call 20; exact Calls.later (VS.out _)))))
      refine wpQuiet_nil ?_
      rintro _ ⟨u, rfl⟩
      have X3 := Lib.hid (X2.out.below u.below)
      have Y3 := Lib.hid (Y2.out.below u.below)
      have B3 := Lib.hid (below_then B2.out u.below)
      clear c0 c1 c2 d0 d1 d2 VS X2 Y2 B2
      generalize u.now = w3 at X3 Y3 B3
      have c0 : w3.cell? ⟨bt, 0, none⟩ = some (.int .i64 p) := X3.out.cell 0
      have c1 : w3.cell? ⟨bt, 1, none⟩ = some (.int .i64 t) := X3.out.cell 1
      have c2 : w3.cell? ⟨bt, 2, none⟩ = some (.int .i64 r) := X3.out.cell 2
      go_wp2_with fail
      refine (spec_padValid _ _ _ _).mono ?_; rintro e w4 ⟨rfl, b4⟩
      rw [HV.out]
      have X4 := Lib.hid (X3.out.below b4)
      have Y4 := Lib.hid (Y3.out.below b4)
      have B4 := Lib.hid (below_then B3.out b4)
      clear b4 c0 c1 c2 X3 Y3 B3
      have d0 : w4.cell? ⟨bx, 0, none⟩ = some (.int .i64 0) := Y4.out.cell 0
      have d1 : w4.cell? ⟨bx, 1, none⟩ = some (.int .i64 0) := Y4.out.cell 1
      have d2 : w4.cell? ⟨bx, 2, none⟩ = some (.int .i64 0) := Y4.out.cell 2
      go_wp2_with fail
      refine (alive_any _).mono ?_; rintro e w' ⟨rfl, rfl⟩
      go_wp2_with fail
      go_ret
      exact ⟨rfl, B4.out⟩
  · have hs' : 1048576 < len0 := by omega
    go_enter Try.func4, Try.ntmps4
    go_wp2_with fail
    go_ret
    exact ⟨rfl, Below.refl _ _⟩
set_option maxRecDepth 100000 in
set_option maxHeartbeats 4000000 in
theorem walk_FnReadPad (a0 : Option Addr) (len0 cap0 : Nat) (z0 : List Int) (w : World) (w0 : IsRow .u8 w a0 len0 cap0 z0) :
    Calls Try.prog 6 #[.slice a0 len0 cap0] w fun e w' => e = .returned (.bool true) ∧ Below w.heap.size w w' := by
  have H := Lib.hid w0
  have hl := isRow_len w0
  clear w0
  by_cases hs : len0 ≤ 1048576
  · go_enter Try.func6, Try.ntmps6
    go_wp2_with fail
    refine (drawReadPad _ _ _ _ _ H.out).mono ?_; rintro e w1 ⟨p, t, r, rfl, hp, ht, hr, b1⟩
    obtain ⟨WX, hWX⟩ : ∃ WX, WX = w1.alloc (.cells #[.int .i64 p, .int .i64 t, .int .i64 r] 24) := ⟨_, rfl⟩
    have B1 : Hid (Below w.heap.size w WX) := by rw [hWX]; exact b1.alloc b1.size _
    have X1 : Hid (Box WX w1.heap.size 24 [.int .i64 p, .int .i64 t, .int .i64 r]) := by rw [hWX]; exact Box.new w1 _ _
    clear b1
    go_upto_region 4 with (fail)
    rw [← hWX]
    generalize w1.heap.size = bt at X1
    clear hWX
    by_cases hv : padB p t r = true
    · have HV := Lib.hid hv
      by_cases h8 : r = 8
      · subst h8
        have HP : Hid (ReadTo p t 8 p t 8 1) := by
          obtain ⟨x0, x1, x2, x3, h⟩ := read_to p t 8
          obtain ⟨rfl, rfl, rfl, rfl⟩ := read_end h hv rfl
          exact h
        clear hv
        have c0 : WX.cell? ⟨bt, 0, none⟩ = some (.int .i64 p) := X1.out.cell 0
        have c1 : WX.cell? ⟨bt, 1, none⟩ = some (.int .i64 t) := X1.out.cell 1
        have c2 : WX.cell? ⟨bt, 2, none⟩ = some (.int .i64 8) := X1.out.cell 2
        go_wp2_with fail
        refine (impl_read _ _ _ _ _ _ _ _ HP.out).mono ?_; rintro e w2 ⟨rfl, b2⟩
        obtain ⟨W2, hW2⟩ : ∃ W2, W2 = w2.alloc (.cells #[.int .i64 p, .int .i64 t, .int .i64 8] 24) := ⟨_, rfl⟩
        have X2 : Hid (Box W2 bt 24 [.int .i64 p, .int .i64 t, .int .i64 8]) := by rw [hW2]; exact (X1.out.below b2).alloc _
        have Y2 : Hid (Box W2 w2.heap.size 24 [.int .i64 p, .int .i64 t, .int .i64 8]) := by rw [hW2]; exact Box.new w2 _ _
        have B2 : Hid (Below w.heap.size w W2) := by rw [hW2]; exact (below_then B1.out b2).alloc (below_then B1.out b2).size _
        clear b2 c0 c1 c2 X1 B1
        go_upto_region 5 with (fail)
        rw [← hW2]
        clear hW2
        generalize w2.heap.size = bx at Y2 ⊢
        have c0 : W2.cell? ⟨bt, 0, none⟩ = some (.int .i64 p) := X2.out.cell 0
        have c1 : W2.cell? ⟨bt, 1, none⟩ = some (.int .i64 t) := X2.out.cell 1
        have c2 : W2.cell? ⟨bt, 2, none⟩ = some (.int .i64 8) := X2.out.cell 2
        go_wp2_with fail
        refine (spec_read _ _ _ _ _ _ _ _ HP.out).mono ?_; rintro e w3 ⟨rfl, b3⟩
        obtain ⟨W3, hW3⟩ : ∃ W3, W3 = w3.alloc (.cells #[.int .i64 p, .int .i64 t, .int .i64 8] 24) := ⟨_, rfl⟩
        have X3 : Hid (Box W3 bt 24 [.int .i64 p, .int .i64 t, .int .i64 8]) := by rw [hW3]; exact (X2.out.below b3).alloc _
        have Y3 : Hid (Box W3 bx 24 [.int .i64 p, .int .i64 t, .int .i64 8]) := by rw [hW3]; exact (Y2.out.below b3).alloc _
        have Z3 : Hid (Box W3 w3.heap.size 24 [.int .i64 p, .int .i64 t, .int .i64 8]) := by rw [hW3]; exact Box.new w3 _ _
        have B3 : Hid (Below w.heap.size w W3) := by rw [hW3]; exact (below_then B2.out b3).alloc (below_then B2.out b3).size _
        clear b3 c0 c1 c2 X2 Y2 B2
        go_upto_region 6 with (fail)
        rw [← hW3]
        clear hW3
        generalize w3.heap.size = bz at Z3 ⊢
        have c0 : W3.cell? ⟨bt, 0, none⟩ = some (.int .i64 p) := X3.out.cell 0
        have c1 : W3.cell? ⟨bt, 1, none⟩ = some (.int .i64 t) := X3.out.cell 1
        have c2 : W3.cell? ⟨bt, 2, none⟩ = some (.int .i64 8) := X3.out.cell 2
        have d0 : W3.cell? ⟨bx, 0, none⟩ = some (.int .i64 p) := Y3.out.cell 0
        have d1 : W3.cell? ⟨bx, 1, none⟩ = some (.int .i64 t) := Y3.out.cell 1
        have d2 : W3.cell? ⟨bx, 2, none⟩ = some (.int .i64 8) := Y3.out.cell 2
        have f0 : W3.cell? ⟨bz, 0, none⟩ = some (.int .i64 p) := Z3.out.cell 0
        have f1 : W3.cell? ⟨bz, 1, none⟩ = some (.int .i64 t) := Z3.out.cell 1
        have f2 : W3.cell? ⟨bz, 2, none⟩ = some (.int .i64 8) := Z3.out.cell 2
        go_wp2_with fail
        refine (spec_padValid _ _ _ _).mono ?_; rintro e w4 ⟨rfl, b4⟩
        rw [HV.out]
        have X4 := Lib.hid (X3.out.below b4)
        have Y4 := Lib.hid (Y3.out.below b4)
        have B4 := Lib.hid (below_then B3.out b4)
        clear b4 c0 c1 c2 d0 d1 d2 f0 f1 f2 X3 Y3 Z3 B3
        have c0 : w4.cell? ⟨bt, 0, none⟩ = some (.int .i64 p) := X4.out.cell 0
        have c1 : w4.cell? ⟨bt, 1, none⟩ = some (.int .i64 t) := X4.out.cell 1
        have c2 : w4.cell? ⟨bt, 2, none⟩ = some (.int .i64 8) := X4.out.cell 2
        have d0 : w4.cell? ⟨bx, 0, none⟩ = some (.int .i64 p) := Y4.out.cell 0
        have d1 : w4.cell? ⟨bx, 1, none⟩ = some (.int .i64 t) := Y4.out.cell 1
        have d2 : w4.cell? ⟨bx, 2, none⟩ = some (.int .i64 8) := Y4.out.cell 2
        go_wp2_with fail
        go_ret
        exact ⟨rfl, B4.out⟩
      · obtain ⟨v, hb, hp0⟩ : ∃ v : Int, (v = 0 ∨ v = 1) ∧ ReadTo p t r p t (r + 1) v := by
          obtain ⟨x0, x1, x2, x3, h⟩ := read_to p t r
          obtain ⟨rfl, rfl, rfl, hx⟩ := read_next h hv h8
          exact ⟨x3, by omega, h⟩
        have HP := Lib.hid hp0
        have hd : (r == 8) = false := by simpa using h8
        obtain ⟨_, _, r0, r1⟩ := padB_iff.1 hv
        have r2 : r + 1 ≤ 8 := by omega
        clear hv h8 hp0
        rcases hb with rfl | rfl
        · have c0 : WX.cell? ⟨bt, 0, none⟩ = some (.int .i64 p) := X1.out.cell 0
          have c1 : WX.cell? ⟨bt, 1, none⟩ = some (.int .i64 t) := X1.out.cell 1
          have c2 : WX.cell? ⟨bt, 2, none⟩ = some (.int .i64 r) := X1.out.cell 2
          go_wp2_with fail
          refine (impl_read _ _ _ _ _ _ _ _ HP.out).mono ?_; rintro e w2 ⟨rfl, b2⟩
          obtain ⟨W2, hW2⟩ : ∃ W2, W2 = w2.alloc (.cells #[.int .i64 p, .int .i64 t, .int .i64 (r + 1)] 24) := ⟨_, rfl⟩
          have X2 : Hid (Box W2 bt 24 [.int .i64 p, .int .i64 t, .int .i64 r]) := by rw [hW2]; exact (X1.out.below b2).alloc _
          have Y2 : Hid (Box W2 w2.heap.size 24 [.int .i64 p, .int .i64 t, .int .i64 (r + 1)]) := by rw [hW2]; exact Box.new w2 _ _
          have B2 : Hid (Below w.heap.size w W2) := by rw [hW2]; exact (below_then B1.out b2).alloc (below_then B1.out b2).size _
          clear b2 c0 c1 c2 X1 B1
          go_upto_region 5 with (fail)
          rw [← hW2]
          clear hW2
          generalize w2.heap.size = bx at Y2 ⊢
          have c0 : W2.cell? ⟨bt, 0, none⟩ = some (.int .i64 p) := X2.out.cell 0
          have c1 : W2.cell? ⟨bt, 1, none⟩ = some (.int .i64 t) := X2.out.cell 1
          have c2 : W2.cell? ⟨bt, 2, none⟩ = some (.int .i64 r) := X2.out.cell 2
          go_wp2_with fail
          refine (spec_read _ _ _ _ _ _ _ _ HP.out).mono ?_; rintro e w3 ⟨rfl, b3⟩
          obtain ⟨W3, hW3⟩ : ∃ W3, W3 = w3.alloc (.cells #[.int .i64 p, .int .i64 t, .int .i64 (r + 1)] 24) := ⟨_, rfl⟩
          have X3 : Hid (Box W3 bt 24 [.int .i64 p, .int .i64 t, .int .i64 r]) := by rw [hW3]; exact (X2.out.below b3).alloc _
          have Y3 : Hid (Box W3 bx 24 [.int .i64 p, .int .i64 t, .int .i64 (r + 1)]) := by rw [hW3]; exact (Y2.out.below b3).alloc _
          have Z3 : Hid (Box W3 w3.heap.size 24 [.int .i64 p, .int .i64 t, .int .i64 (r + 1)]) := by rw [hW3]; exact Box.new w3 _ _
          have B3 : Hid (Below w.heap.size w W3) := by rw [hW3]; exact (below_then B2.out b3).alloc (below_then B2.out b3).size _
          clear b3 c0 c1 c2 X2 Y2 B2
          go_upto_region 6 with (fail)
          rw [← hW3]
          clear hW3
          generalize w3.heap.size = bz at Z3 ⊢
          have c0 : W3.cell? ⟨bt, 0, none⟩ = some (.int .i64 p) := X3.out.cell 0
          have c1 : W3.cell? ⟨bt, 1, none⟩ = some (.int .i64 t) := X3.out.cell 1
          have c2 : W3.cell? ⟨bt, 2, none⟩ = some (.int .i64 r) := X3.out.cell 2
          have d0 : W3.cell? ⟨bx, 0, none⟩ = some (.int .i64 p) := Y3.out.cell 0
          have d1 : W3.cell? ⟨bx, 1, none⟩ = some (.int .i64 t) := Y3.out.cell 1
          have d2 : W3.cell? ⟨bx, 2, none⟩ = some (.int .i64 (r + 1)) := Y3.out.cell 2
          have f0 : W3.cell? ⟨bz, 0, none⟩ = some (.int .i64 p) := Z3.out.cell 0
          have f1 : W3.cell? ⟨bz, 1, none⟩ = some (.int .i64 t) := Z3.out.cell 1
          have f2 : W3.cell? ⟨bz, 2, none⟩ = some (.int .i64 (r + 1)) := Z3.out.cell 2
          go_wp2_with fail
          refine (spec_padValid _ _ _ _).mono ?_; rintro e w4 ⟨rfl, b4⟩
          rw [HV.out]
          have X4 := Lib.hid (X3.out.below b4)
          have Y4 := Lib.hid (Y3.out.below b4)
          have B4 := Lib.hid (below_then B3.out b4)
          clear b4 c0 c1 c2 d0 d1 d2 f0 f1 f2 X3 Y3 Z3 B3
          have c0 : w4.cell? ⟨bt, 0, none⟩ = some (.int .i64 p) := X4.out.cell 0
          have c1 : w4.cell? ⟨bt, 1, none⟩ = some (.int .i64 t) := X4.out.cell 1
          have c2 : w4.cell? ⟨bt, 2, none⟩ = some (.int .i64 r) := X4.out.cell 2
          have d0 : w4.cell? ⟨bx, 0, none⟩ = some (.int .i64 p) := Y4.out.cell 0
          have d1 : w4.cell? ⟨bx, 1, none⟩ = some (.int .i64 t) := Y4.out.cell 1
          have d2 : w4.cell? ⟨bx, 2, none⟩ = some (.int .i64 (r + 1)) := Y4.out.cell 2
          go_wp2_with fail
          all_goals
            go_ret
            exact ⟨rfl, B4.out⟩
        · have c0 : WX.cell? ⟨bt, 0, none⟩ = some (.int .i64 p) := X1.out.cell 0
          have c1 : WX.cell? ⟨bt, 1, none⟩ = some (.int .i64 t) := X1.out.cell 1
          have c2 : WX.cell? ⟨bt, 2, none⟩ = some (.int .i64 r) := X1.out.cell 2
          go_wp2_with fail
          refine (impl_read _ _ _ _ _ _ _ _ HP.out).mono ?_; rintro e w2 ⟨rfl, b2⟩
          obtain ⟨W2, hW2⟩ : ∃ W2, W2 = w2.alloc (.cells #[.int .i64 p, .int .i64 t, .int .i64 (r + 1)] 24) := ⟨_, rfl⟩
          have X2 : Hid (Box W2 bt 24 [.int .i64 p, .int .i64 t, .int .i64 r]) := by rw [hW2]; exact (X1.out.below b2).alloc _
          have Y2 : Hid (Box W2 w2.heap.size 24 [.int .i64 p, .int .i64 t, .int .i64 (r + 1)]) := by rw [hW2]; exact Box.new w2 _ _
          have B2 : Hid (Below w.heap.size w W2) := by rw [hW2]; exact (below_then B1.out b2).alloc (below_then B1.out b2).size _
          clear b2 c0 c1 c2 X1 B1
          go_upto_region 5 with (fail)
          rw [← hW2]
          clear hW2
          generalize w2.heap.size = bx at Y2 ⊢
          have c0 : W2.cell? ⟨bt, 0, none⟩ = some (.int .i64 p) := X2.out.cell 0
          have c1 : W2.cell? ⟨bt, 1, none⟩ = some (.int .i64 t) := X2.out.cell 1
          have c2 : W2.cell? ⟨bt, 2, none⟩ = some (.int .i64 r) := X2.out.cell 2
          go_wp2_with fail
          refine (spec_read _ _ _ _ _ _ _ _ HP.out).mono ?_; rintro e w3 ⟨rfl, b3⟩
          obtain ⟨W3, hW3⟩ : ∃ W3, W3 = w3.alloc (.cells #[.int .i64 p, .int .i64 t, .int .i64 (r + 1)] 24) := ⟨_, rfl⟩
          have X3 : Hid (Box W3 bt 24 [.int .i64 p, .int .i64 t, .int .i64 r]) := by rw [hW3]; exact (X2.out.below b3).alloc _
          have Y3 : Hid (Box W3 bx 24 [.int .i64 p, .int .i64 t, .int .i64 (r + 1)]) := by rw [hW3]; exact (Y2.out.below b3).alloc _
          have Z3 : Hid (Box W3 w3.heap.size 24 [.int .i64 p, .int .i64 t, .int .i64 (r + 1)]) := by rw [hW3]; exact Box.new w3 _ _
          have B3 : Hid (Below w.heap.size w W3) := by rw [hW3]; exact (below_then B2.out b3).alloc (below_then B2.out b3).size _
          clear b3 c0 c1 c2 X2 Y2 B2
          go_upto_region 6 with (fail)
          rw [← hW3]
          clear hW3
          generalize w3.heap.size = bz at Z3 ⊢
          have c0 : W3.cell? ⟨bt, 0, none⟩ = some (.int .i64 p) := X3.out.cell 0
          have c1 : W3.cell? ⟨bt, 1, none⟩ = some (.int .i64 t) := X3.out.cell 1
          have c2 : W3.cell? ⟨bt, 2, none⟩ = some (.int .i64 r) := X3.out.cell 2
          have d0 : W3.cell? ⟨bx, 0, none⟩ = some (.int .i64 p) := Y3.out.cell 0
          have d1 : W3.cell? ⟨bx, 1, none⟩ = some (.int .i64 t) := Y3.out.cell 1
          have d2 : W3.cell? ⟨bx, 2, none⟩ = some (.int .i64 (r + 1)) := Y3.out.cell 2
          have f0 : W3.cell? ⟨bz, 0, none⟩ = some (.int .i64 p) := Z3.out.cell 0
          have f1 : W3.cell? ⟨bz, 1, none⟩ = some (.int .i64 t) := Z3.out.cell 1
          have f2 : W3.cell? ⟨bz, 2, none⟩ = some (.int .i64 (r + 1)) := Z3.out.cell 2
          go_wp2_with fail
          refine (spec_padValid _ _ _ _).mono ?_; rintro e w4 ⟨rfl, b4⟩
          rw [HV.out]
          have X4 := Lib.hid (X3.out.below b4)
          have Y4 := Lib.hid (Y3.out.below b4)
          have B4 := Lib.hid (below_then B3.out b4)
          clear b4 c0 c1 c2 d0 d1 d2 f0 f1 f2 X3 Y3 Z3 B3
          have c0 : w4.cell? ⟨bt, 0, none⟩ = some (.int .i64 p) := X4.out.cell 0
          have c1 : w4.cell? ⟨bt, 1, none⟩ = some (.int .i64 t) := X4.out.cell 1
          have c2 : w4.cell? ⟨bt, 2, none⟩ = some (.int .i64 r) := X4.out.cell 2
          have d0 : w4.cell? ⟨bx, 0, none⟩ = some (.int .i64 p) := Y4.out.cell 0
          have d1 : w4.cell? ⟨bx, 1, none⟩ = some (.int .i64 t) := Y4.out.cell 1
          have d2 : w4.cell? ⟨bx, 2, none⟩ = some (.int .i64 (r + 1)) := Y4.out.cell 2
          go_wp2_with fail
          all_goals
            go_ret
            exact ⟨rfl, B4.out⟩
    · have HV := Lib.hid (show padB p t r = false by simpa using hv)
      have HP : Hid (ReadTo p t r 0 0 0 0) := by
        obtain ⟨x0, x1, x2, x3, h⟩ := read_to p t r
        obtain ⟨rfl, rfl, rfl, rfl⟩ := read_no h HV.out
        exact h
      clear hv
      have c0 : WX.cell? ⟨bt, 0, none⟩ = some (.int .i64 p) := X1.out.cell 0
      have c1 : WX.cell? ⟨bt, 1, none⟩ = some (.int .i64 t) := X1.out.cell 1
      have c2 : WX.cell? ⟨bt, 2, none⟩ = some (.int .i64 r) := X1.out.cell 2
      go_wp2_with fail
      refine (impl_read _ _ _ _ _ _ _ _ HP.out).mono ?_; rintro e w2 ⟨rfl, b2⟩
      obtain ⟨W2, hW2⟩ : ∃ W2, W2 = w2.alloc (.cells #[.int .i64 0, .int .i64 0, .int .i64 0] 24) := ⟨_, rfl⟩
      have X2 : Hid (Box W2 bt 24 [.int .i64 p, .int .i64 t, .int .i64 r]) := by rw [hW2]; exact (X1.out.below b2).alloc _
      have Y2 : Hid (Box W2 w2.heap.size 24 [.int .i64 0, .int .i64 0, .int .i64 0]) := by rw [hW2]; exact Box.new w2 _ _
      have B2 : Hid (Below w.heap.size w W2) := by rw [hW2]; exact (below_then B1.out b2).alloc (below_then B1.out b2).size _
      clear b2 c0 c1 c2 X1 B1
      go_upto_region 5 with (fail)
      rw [← hW2]
      clear hW2
      generalize w2.heap.size = bx at Y2 ⊢
      have c0 : W2.cell? ⟨bt, 0, none⟩ = some (.int .i64 p) := X2.out.cell 0
      have c1 : W2.cell? ⟨bt, 1, none⟩ = some (.int .i64 t) := X2.out.cell 1
      have c2 : W2.cell? ⟨bt, 2, none⟩ = some (.int .i64 r) := X2.out.cell 2
      go_wp2_with fail
      refine (spec_read _ _ _ _ _ _ _ _ HP.out).mono ?_; rintro e w3 ⟨rfl, b3⟩
      obtain ⟨W3, hW3⟩ : ∃ W3, W3 = w3.alloc (.cells #[.int .i64 0, .int .i64 0, .int .i64 0] 24) := ⟨_, rfl⟩
      have X3 : Hid (Box W3 bt 24 [.int .i64 p, .int .i64 t, .int .i64 r]) := by rw [hW3]; exact (X2.out.below b3).alloc _
      have Y3 : Hid (Box W3 bx 24 [.int .i64 0, .int .i64 0, .int .i64 0]) := by rw [hW3]; exact (Y2.out.below b3).alloc _
      have Z3 : Hid (Box W3 w3.heap.size 24 [.int .i64 0, .int .i64 0, .int .i64 0]) := by rw [hW3]; exact Box.new w3 _ _
      have B3 : Hid (Below w.heap.size w W3) := by rw [hW3]; exact (below_then B2.out b3).alloc (below_then B2.out b3).size _
      clear b3 c0 c1 c2 X2 Y2 B2
      go_upto_region 6 with (fail)
      rw [← hW3]
      clear hW3
      generalize w3.heap.size = bz at Z3 ⊢
      have c0 : W3.cell? ⟨bt, 0, none⟩ = some (.int .i64 p) := X3.out.cell 0
      have c1 : W3.cell? ⟨bt, 1, none⟩ = some (.int .i64 t) := X3.out.cell 1
      have c2 : W3.cell? ⟨bt, 2, none⟩ = some (.int .i64 r) := X3.out.cell 2
      have d0 : W3.cell? ⟨bx, 0, none⟩ = some (.int .i64 0) := Y3.out.cell 0
      have d1 : W3.cell? ⟨bx, 1, none⟩ = some (.int .i64 0) := Y3.out.cell 1
      have d2 : W3.cell? ⟨bx, 2, none⟩ = some (.int .i64 0) := Y3.out.cell 2
      have f0 : W3.cell? ⟨bz, 0, none⟩ = some (.int .i64 0) := Z3.out.cell 0
      have f1 : W3.cell? ⟨bz, 1, none⟩ = some (.int .i64 0) := Z3.out.cell 1
      have f2 : W3.cell? ⟨bz, 2, none⟩ = some (.int .i64 0) := Z3.out.cell 2
      go_wp2_with fail
      refine (spec_padValid _ _ _ _).mono ?_; rintro e w4 ⟨rfl, b4⟩
      rw [HV.out]
      have X4 := Lib.hid (X3.out.below b4)
      have Y4 := Lib.hid (Y3.out.below b4)
      have B4 := Lib.hid (below_then B3.out b4)
      clear b4 c0 c1 c2 d0 d1 d2 f0 f1 f2 X3 Y3 Z3 B3
      have c0 : w4.cell? ⟨bt, 0, none⟩ = some (.int .i64 p) := X4.out.cell 0
      have c1 : w4.cell? ⟨bt, 1, none⟩ = some (.int .i64 t) := X4.out.cell 1
      have c2 : w4.cell? ⟨bt, 2, none⟩ = some (.int .i64 r) := X4.out.cell 2
      have d0 : w4.cell? ⟨bx, 0, none⟩ = some (.int .i64 0) := Y4.out.cell 0
      have d1 : w4.cell? ⟨bx, 1, none⟩ = some (.int .i64 0) := Y4.out.cell 1
      have d2 : w4.cell? ⟨bx, 2, none⟩ = some (.int .i64 0) := Y4.out.cell 2
      go_wp2_with fail
      refine (alive_any _).mono ?_; rintro e w' ⟨rfl, rfl⟩
      go_wp2_with fail
      go_ret
      exact ⟨rfl, B4.out⟩
  · have hs' : 1048576 < len0 := by omega
    go_enter Try.func6, Try.ntmps6
    go_wp2_with fail
    go_ret
    exact ⟨rfl, Below.refl _ _⟩
end Go.Proofs.Ytjfhdkidefkogaa
