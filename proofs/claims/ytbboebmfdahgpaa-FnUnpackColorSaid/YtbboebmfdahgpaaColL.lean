/- The laws on valid, packed and unpacked colors, walked. -/
import Derived.Test.YtbboebmfdahgpaaColD
import Derived.Test.YtbboebmfdahgpaaColS
import Derived.Test.YtbboebmfdahgpaaTypedC
import Derived.Deep.DeepCutAuto
namespace Go.Proofs.Ytbboebmfdahgpaa
open Go.ChangeShapes Go.WideShapes Go.ChangeAt Go.RowKit
set_option linter.unusedVariables false

theorem col_top (r g : Int) : colB r g 32 = false := by simp [colB, betB]
theorem pack_white : packT 31 31 31 = 32767 := by decide
set_option maxRecDepth 100000 in
set_option maxHeartbeats 8000000 in
theorem walk_FnColorValid (a0 : Option Addr) (len0 cap0 : Nat) (z0 : List Int) (w : World) (w0 : IsRow .u8 w a0 len0 cap0 z0) :
    Calls Try.prog 3 #[.slice a0 len0 cap0] w fun e w' => e = .returned (.bool true) ∧ Below w.heap.size w w' := by
  have H := Lib.hid w0
  have hl := isRow_len w0
  clear w0
  by_cases hs : len0 ≤ 1048576
  · go_enter Try.func3, Try.ntmps3
    go_wp2_with fail
    refine (drawColorValid _ _ _ _ _ H.out).mono ?_; rintro e w1 ⟨r, g, b, rfl, hr, hg, hb, b1⟩
    obtain ⟨WX, hWX⟩ : ∃ WX, WX = w1.alloc (.cells #[.int .i64 r, .int .i64 g, .int .i64 b] 24) := ⟨_, rfl⟩
    have B1 : Hid (Below w.heap.size w WX) := by rw [hWX]; exact b1.alloc b1.size _
    have X1 : Hid (Box WX w1.heap.size 24 [.int .i64 r, .int .i64 g, .int .i64 b]) := by rw [hWX]; exact Box.new w1 _ _
    have hbt : w.heap.size ≤ w1.heap.size := b1.size
    clear b1
    go_upto_region 4 with (fail)
    rw [← hWX]
    generalize w1.heap.size = bt at X1 hbt
    clear hWX
    have c0 : WX.cell? ⟨bt, 0, none⟩ = some (.int .i64 r) := X1.out.cell 0
    have c1 : WX.cell? ⟨bt, 1, none⟩ = some (.int .i64 g) := X1.out.cell 1
    have c2 : WX.cell? ⟨bt, 2, none⟩ = some (.int .i64 b) := X1.out.cell 2
    go_wp2_with fail
    refine (impl_valid _ _ _ _).mono ?_; rintro e w2 ⟨rfl, b2⟩
    have X2 := Lib.hid (X1.out.below b2)
    have B2 := Lib.hid (below_then B1.out b2)
    clear b2
    clear c0 c1 c2 X1 B1
    have c0 : w2.cell? ⟨bt, 0, none⟩ = some (.int .i64 r) := X2.out.cell 0
    have c1 : w2.cell? ⟨bt, 1, none⟩ = some (.int .i64 g) := X2.out.cell 1
    have c2 : w2.cell? ⟨bt, 2, none⟩ = some (.int .i64 b) := X2.out.cell 2
    go_wp2_with fail
    refine (spec_valid _ _ _ _).mono ?_; rintro e w3 ⟨rfl, b3⟩
    have X3 := Lib.hid (X2.out.below b3)
    have B3 := Lib.hid (below_then B2.out b3)
    clear b3
    clear c0 c1 c2 X2 B2
    generalize colB r g b = V
    have f0 := X3.out.frozen 2
    have k0 := X3.out.cell 2
    go_upto_region 8 with (fail)
    have X4 : Hid (Box (w3.setCell ⟨bt, 2, none⟩ (.int .i64 32)) bt 24 [.int .i64 r, .int .i64 g, .int .i64 32]) := X3.out.set 2 _
    have B4 := Lib.hid (B3.out.setCell (p := ⟨bt, 2, none⟩) hbt (.int .i64 32))
    generalize w3.setCell ⟨bt, 2, none⟩ (.int .i64 32) = W4 at X4 B4 ⊢
    clear f0 k0 X3 B3
    have c0 : W4.cell? ⟨bt, 0, none⟩ = some (.int .i64 r) := X4.out.cell 0
    have c1 : W4.cell? ⟨bt, 1, none⟩ = some (.int .i64 g) := X4.out.cell 1
    have c2 : W4.cell? ⟨bt, 2, none⟩ = some (.int .i64 32) := X4.out.cell 2
    go_wp2_with fail
    refine (impl_valid _ _ _ _).mono ?_; rintro e w5 ⟨rfl, b5⟩
    rw [col_top]
    have B5 := Lib.hid (below_then B4.out b5)
    clear b5 c0 c1 c2
    go_wp2_with fail
    refine (alive_any _).mono ?_; rintro e w' ⟨rfl, rfl⟩
    go_wp2_with fail
    go_ret
    exact ⟨rfl, B5.out⟩
  · have hs' : 1048576 < len0 := by omega
    go_enter Try.func3, Try.ntmps3
    go_wp2_with fail
    go_ret
    exact ⟨rfl, Below.refl _ _⟩
set_option maxRecDepth 100000 in
set_option maxHeartbeats 8000000 in
theorem walk_FnPackColor (a0 : Option Addr) (len0 cap0 : Nat) (z0 : List Int) (w : World) (w0 : IsRow .u8 w a0 len0 cap0 z0) :
    Calls Try.prog 4 #[.slice a0 len0 cap0] w fun e w' => e = .returned (.bool true) ∧ Below w.heap.size w w' := by
  have H := Lib.hid w0
  have hl := isRow_len w0
  clear w0
  by_cases hs : len0 ≤ 1048576
  · go_enter Try.func4, Try.ntmps4
    go_wp2_with fail
    refine (drawPackColor _ _ _ _ _ H.out).mono ?_; rintro e w1 ⟨r, g, b, rfl, hr, hg, hb, b1⟩
    obtain ⟨WX, hWX⟩ : ∃ WX, WX = w1.alloc (.cells #[.int .i64 r, .int .i64 g, .int .i64 b] 24) := ⟨_, rfl⟩
    have B1 : Hid (Below w.heap.size w WX) := by rw [hWX]; exact b1.alloc b1.size _
    have X1 : Hid (Box WX w1.heap.size 24 [.int .i64 r, .int .i64 g, .int .i64 b]) := by rw [hWX]; exact Box.new w1 _ _
    have hbt : w.heap.size ≤ w1.heap.size := b1.size
    clear b1
    go_upto_region 4 with (fail)
    rw [← hWX]
    generalize w1.heap.size = bt at X1 hbt
    clear hWX
    by_cases k : colB r g b = true
    · obtain ⟨n, hn⟩ : ∃ n, packI r g b = n := ⟨_, rfl⟩
      have EP := Lib.hid ((packT_yes k).trans hn)
      have HU := Lib.hid (hn ▸ unp_pack k)
      obtain ⟨p0, p1⟩ := pack_bd k
      rw [hn] at p0 p1
      clear k hn
      have c0 : WX.cell? ⟨bt, 0, none⟩ = some (.int .i64 r) := X1.out.cell 0
      have c1 : WX.cell? ⟨bt, 1, none⟩ = some (.int .i64 g) := X1.out.cell 1
      have c2 : WX.cell? ⟨bt, 2, none⟩ = some (.int .i64 b) := X1.out.cell 2
      go_wp2_with fail
      refine (impl_pack _ _ _ _).mono ?_; rintro e w2 ⟨rfl, b2⟩
      rw [EP.out]
      have X2 := Lib.hid (X1.out.below b2)
      have B2 := Lib.hid (below_then B1.out b2)
      clear b2
      clear c0 c1 c2 X1 B1
      have c0 : w2.cell? ⟨bt, 0, none⟩ = some (.int .i64 r) := X2.out.cell 0
      have c1 : w2.cell? ⟨bt, 1, none⟩ = some (.int .i64 g) := X2.out.cell 1
      have c2 : w2.cell? ⟨bt, 2, none⟩ = some (.int .i64 b) := X2.out.cell 2
      go_wp2_with fail
      refine (spec_pack _ _ _ _).mono ?_; rintro e w3 ⟨rfl, b3⟩
      rw [EP.out]
      have X3 := Lib.hid (X2.out.below b3)
      have B3 := Lib.hid (below_then B2.out b3)
      clear b3
      clear c0 c1 c2 X2 B2
      go_wp2_with fail
      refine (impl_unp _ _ _ _ _ _ HU.out).mono ?_; rintro e w4 ⟨rfl, b4⟩
      obtain ⟨W4, hW4⟩ : ∃ W4, W4 = w4.alloc (.cells #[.int .i64 r, .int .i64 g, .int .i64 b] 24) := ⟨_, rfl⟩
      have X4 := Lib.hid (show Box W4 _ _ _ by rw [hW4]; exact (X3.out.below b4).alloc _)
      have Y4 : Hid (Box W4 w4.heap.size 24 [.int .i64 r, .int .i64 g, .int .i64 b]) := by rw [hW4]; exact Box.new w4 _ _
      have B4 : Hid (Below w.heap.size w W4) := by rw [hW4]; exact (below_then B3.out b4).alloc (below_then B3.out b4).size _
      clear b4
      go_upto_region 10 with (fail)
      rw [← hW4]
      clear hW4
      generalize w4.heap.size = bx at Y4
      have c0 : W4.cell? ⟨bt, 0, none⟩ = some (.int .i64 r) := X4.out.cell 0
      have c1 : W4.cell? ⟨bt, 1, none⟩ = some (.int .i64 g) := X4.out.cell 1
      have c2 : W4.cell? ⟨bt, 2, none⟩ = some (.int .i64 b) := X4.out.cell 2
      have d0 : W4.cell? ⟨bx, 0, none⟩ = some (.int .i64 r) := Y4.out.cell 0
      have d1 : W4.cell? ⟨bx, 1, none⟩ = some (.int .i64 g) := Y4.out.cell 1
      have d2 : W4.cell? ⟨bx, 2, none⟩ = some (.int .i64 b) := Y4.out.cell 2
      go_wp2_with fail
      refine (impl_pack _ _ _ _).mono ?_; rintro e w5 ⟨rfl, b5⟩
      rw [pack_white]
      have B5 := Lib.hid (below_then B4.out b5)
      clear b5 c0 c1 c2 d0 d1 d2
      go_wp2_with fail
      go_ret
      exact ⟨rfl, B5.out⟩
    · have EP := Lib.hid (packT_no (show colB r g b = false by simpa using k))
      clear k
      have c0 : WX.cell? ⟨bt, 0, none⟩ = some (.int .i64 r) := X1.out.cell 0
      have c1 : WX.cell? ⟨bt, 1, none⟩ = some (.int .i64 g) := X1.out.cell 1
      have c2 : WX.cell? ⟨bt, 2, none⟩ = some (.int .i64 b) := X1.out.cell 2
      go_wp2_with fail
      refine (impl_pack _ _ _ _).mono ?_; rintro e w2 ⟨rfl, b2⟩
      rw [EP.out]
      have X2 := Lib.hid (X1.out.below b2)
      have B2 := Lib.hid (below_then B1.out b2)
      clear b2
      clear c0 c1 c2 X1 B1
      have c0 : w2.cell? ⟨bt, 0, none⟩ = some (.int .i64 r) := X2.out.cell 0
      have c1 : w2.cell? ⟨bt, 1, none⟩ = some (.int .i64 g) := X2.out.cell 1
      have c2 : w2.cell? ⟨bt, 2, none⟩ = some (.int .i64 b) := X2.out.cell 2
      go_wp2_with fail
      refine (spec_pack _ _ _ _).mono ?_; rintro e w3 ⟨rfl, b3⟩
      rw [EP.out]
      have X3 := Lib.hid (X2.out.below b3)
      have B3 := Lib.hid (below_then B2.out b3)
      clear b3
      clear c0 c1 c2 X2 B2
      go_wp2_with fail
      refine (alive_any _).mono ?_; rintro e w' ⟨rfl, rfl⟩
      go_wp2_with fail
      go_ret
      exact ⟨rfl, B3.out⟩
  · have hs' : 1048576 < len0 := by omega
    go_enter Try.func4, Try.ntmps4
    go_wp2_with fail
    go_ret
    exact ⟨rfl, Below.refl _ _⟩
set_option maxRecDepth 100000 in
set_option maxHeartbeats 8000000 in
theorem walk_FnUnpackColor (a0 : Option Addr) (len0 cap0 : Nat) (z0 : List Int) (w : World) (w0 : IsRow .u8 w a0 len0 cap0 z0) :
    Calls Try.prog 5 #[.slice a0 len0 cap0] w fun e w' => e = .returned (.bool true) ∧ Below w.heap.size w w' := by
  have H := Lib.hid w0
  have hl := isRow_len w0
  clear w0
  by_cases hs : len0 ≤ 1048576
  · go_enter Try.func5, Try.ntmps5
    go_wp2_with fail
    refine (drawUnpackColor _ _ _ _ _ H.out).mono ?_; rintro e w1 ⟨n, rfl, ⟨n0, n1⟩, b1⟩
    have B1 := Lib.hid b1
    clear b1
    by_cases k : betB n 0 32767 = true
    · obtain ⟨x0, x1, x2, v, h⟩ := unp_to n
      obtain ⟨kc, kp⟩ := pack_unp h k
      have EP := Lib.hid ((packT_yes kc).trans kp)
      obtain rfl : v = true := (unp_yes h k).2.2.2
      have H2 := Lib.hid h
      clear h k kc kp
      go_wp2_with fail
      refine (impl_unp _ _ _ _ _ _ H2.out).mono ?_; rintro e w2 ⟨rfl, b2⟩
      obtain ⟨W2, hW2⟩ : ∃ W2, W2 = w2.alloc (.cells #[.int .i64 x0, .int .i64 x1, .int .i64 x2] 24) := ⟨_, rfl⟩
      have Y2 : Hid (Box W2 w2.heap.size 24 [.int .i64 x0, .int .i64 x1, .int .i64 x2]) := by rw [hW2]; exact Box.new w2 _ _
      have B2 : Hid (Below w.heap.size w W2) := by rw [hW2]; exact (below_then B1.out b2).alloc (below_then B1.out b2).size _
      clear b2
      go_upto_region 5 with (fail)
      rw [← hW2]
      clear hW2
      generalize w2.heap.size = bx at Y2
      go_wp2_with fail
      refine (spec_unp _ _ _ _ _ _ H2.out).mono ?_; rintro e w3 ⟨rfl, b3⟩
      obtain ⟨W3, hW3⟩ : ∃ W3, W3 = w3.alloc (.cells #[.int .i64 x0, .int .i64 x1, .int .i64 x2] 24) := ⟨_, rfl⟩
      have Y3 := Lib.hid (show Box W3 _ _ _ by rw [hW3]; exact (Y2.out.below b3).alloc _)
      have Z3 : Hid (Box W3 w3.heap.size 24 [.int .i64 x0, .int .i64 x1, .int .i64 x2]) := by rw [hW3]; exact Box.new w3 _ _
      have B3 : Hid (Below w.heap.size w W3) := by rw [hW3]; exact (below_then B2.out b3).alloc (below_then B2.out b3).size _
      clear b3
      go_upto_region 6 with (fail)
      rw [← hW3]
      clear hW3
      generalize w3.heap.size = bz at Z3
      have d0 : W3.cell? ⟨bx, 0, none⟩ = some (.int .i64 x0) := Y3.out.cell 0
      have d1 : W3.cell? ⟨bx, 1, none⟩ = some (.int .i64 x1) := Y3.out.cell 1
      have d2 : W3.cell? ⟨bx, 2, none⟩ = some (.int .i64 x2) := Y3.out.cell 2
      have f0 : W3.cell? ⟨bz, 0, none⟩ = some (.int .i64 x0) := Z3.out.cell 0
      have f1 : W3.cell? ⟨bz, 1, none⟩ = some (.int .i64 x1) := Z3.out.cell 1
      have f2 : W3.cell? ⟨bz, 2, none⟩ = some (.int .i64 x2) := Z3.out.cell 2
      go_wp2_with fail
      refine (impl_pack _ _ _ _).mono ?_; rintro e w5 ⟨rfl, b5⟩
      rw [EP.out]
      have B5 := Lib.hid (below_then B3.out b5)
      clear b5 d0 d1 d2 f0 f1 f2
      go_wp2_with fail
      go_ret
      exact ⟨rfl, B5.out⟩
    · obtain ⟨x0, x1, x2, v, h⟩ := unp_to n
      obtain ⟨rfl, rfl, rfl, rfl⟩ := unp_no h (show betB n 0 32767 = false by simpa using k)
      have H2 := Lib.hid h
      clear h k
      go_wp2_with fail
      refine (impl_unp _ _ _ _ _ _ H2.out).mono ?_; rintro e w2 ⟨rfl, b2⟩
      obtain ⟨W2, hW2⟩ : ∃ W2, W2 = w2.alloc (.cells #[.int .i64 0, .int .i64 0, .int .i64 0] 24) := ⟨_, rfl⟩
      have Y2 : Hid (Box W2 w2.heap.size 24 [.int .i64 0, .int .i64 0, .int .i64 0]) := by rw [hW2]; exact Box.new w2 _ _
      have B2 : Hid (Below w.heap.size w W2) := by rw [hW2]; exact (below_then B1.out b2).alloc (below_then B1.out b2).size _
      clear b2
      go_upto_region 5 with (fail)
      rw [← hW2]
      clear hW2
      generalize w2.heap.size = bx at Y2
      go_wp2_with fail
      refine (spec_unp _ _ _ _ _ _ H2.out).mono ?_; rintro e w3 ⟨rfl, b3⟩
      obtain ⟨W3, hW3⟩ : ∃ W3, W3 = w3.alloc (.cells #[.int .i64 0, .int .i64 0, .int .i64 0] 24) := ⟨_, rfl⟩
      have Y3 := Lib.hid (show Box W3 _ _ _ by rw [hW3]; exact (Y2.out.below b3).alloc _)
      have Z3 : Hid (Box W3 w3.heap.size 24 [.int .i64 0, .int .i64 0, .int .i64 0]) := by rw [hW3]; exact Box.new w3 _ _
      have B3 : Hid (Below w.heap.size w W3) := by rw [hW3]; exact (below_then B2.out b3).alloc (below_then B2.out b3).size _
      clear b3
      go_upto_region 6 with (fail)
      rw [← hW3]
      clear hW3
      generalize w3.heap.size = bz at Z3
      have d0 : W3.cell? ⟨bx, 0, none⟩ = some (.int .i64 0) := Y3.out.cell 0
      have d1 : W3.cell? ⟨bx, 1, none⟩ = some (.int .i64 0) := Y3.out.cell 1
      have d2 : W3.cell? ⟨bx, 2, none⟩ = some (.int .i64 0) := Y3.out.cell 2
      have f0 : W3.cell? ⟨bz, 0, none⟩ = some (.int .i64 0) := Z3.out.cell 0
      have f1 : W3.cell? ⟨bz, 1, none⟩ = some (.int .i64 0) := Z3.out.cell 1
      have f2 : W3.cell? ⟨bz, 2, none⟩ = some (.int .i64 0) := Z3.out.cell 2
      go_wp2_with fail
      refine (alive_any _).mono ?_; rintro e w' ⟨rfl, rfl⟩
      go_wp2_with fail
      go_ret
      exact ⟨rfl, B3.out⟩
  · have hs' : 1048576 < len0 := by omega
    go_enter Try.func5, Try.ntmps5
    go_wp2_with fail
    go_ret
    exact ⟨rfl, Below.refl _ _⟩
end Go.Proofs.Ytbboebmfdahgpaa
