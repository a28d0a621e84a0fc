/- The law of MachineValid, walked: it returns true, and changes no memory that was there. -/
import Derived.Test.YtnfphdpoimjcmaaMacH
import Derived.Deep.DeepCutAuto
namespace Go.Proofs.Ytnfphdpoimjcmaa
open Go.ChangeShapes Go.WideShapes Go.ChangeAt Go.RowKit
set_option linter.unusedVariables false

theorem nines_no (X : Mach) : machB { X with back := nines } = false := by simp [machB, nines]
theorem large_no (X : Mach) : machB { X with a := 256 } = false := by simp [machB, byteB]
theorem MacHere.putBack {w : World} {A : Option Addr} {n c : Nat} {R : Option Addr} {k d : Nat} {B : Option Addr} {m g : Nat} {X : Mach} (h : MacHere w A n c R k d B m g X) {b : Nat} (hi : Ints w (some ⟨b, 0, none⟩) 9 nines [b]) : MacHere w A n c R k d (some ⟨b, 0, none⟩) 9 9 { X with back := nines } := by
  obtain ⟨h1, ⟨fa, fr, fb, h2⟩, h3⟩ := h
  exact ⟨⟨h1.1, h1.2.1, Nat.le_refl _⟩, ⟨fa, fr, [b], h2.ram, h2.rom, hi⟩, ⟨h3.ram, h3.rom, h3.row, by show nines.length ≤ 256; decide⟩⟩
theorem MacHere.putA {w : World} {A : Option Addr} {n c : Nat} {R : Option Addr} {k d : Nat} {B : Option Addr} {m g : Nat} {X : Mach} (h : MacHere w A n c R k d B m g X) (x : Int) : MacHere w A n c R k d B m g { X with a := x } := by
  obtain ⟨h1, ⟨fa, fr, fb, h2⟩, h3⟩ := h
  exact ⟨h1, ⟨fa, fr, fb, h2.ram, h2.rom, h2.back⟩, ⟨h3.ram, h3.rom, h3.row, h3.back⟩⟩
theorem ints_made9 (W : World) : Ints (W.alloc (.cells (madeCells #[.int .i64 0] 9) 3)) (some ⟨W.heap.size, 0, none⟩) 9 nines [W.heap.size] := by
  obtain ⟨A, c, fp, e, _, _, hi, _, hf⟩ := own_ints (own_made9 W W.heap.size (Nat.le_refl _))
  injection e with e1 e2 e3
  subst e1
  obtain ⟨b, o, e4, e5, hb, hc⟩ := hi.at_ (by omega)
  injection e4 with e4
  injection e4 with e6 e7 e8
  subst e6; subst e7
  exact ⟨rfl, .inr ⟨by omega, _, 0, rfl, rfl, hb, hc⟩⟩
set_option maxRecDepth 100000 in
set_option maxHeartbeats 4000000 in
theorem walk_FnMachineValid (a0 : Option Addr) (len0 cap0 : Nat) (z0 : List Int) (w : World) (w0 : IsRow .u8 w a0 len0 cap0 z0) :
    Calls Try.prog 3 #[.slice a0 len0 cap0] w fun e w' => e = .returned (.bool true) ∧ Below w.heap.size w w' := by
  have W0 := Lib.hid w0
  have hl := isRow_len w0
  clear w0
  by_cases hs : len0 ≤ 1048576
  case neg =>
    have hs' : 1048576 < len0 := by omega
    go_enter Try.func3, Try.ntmps3
    go_wp2_with fail
    go_ret
    exact ⟨rfl, Below.refl _ _⟩
  go_enter Try.func3, Try.ntmps3
  go_wp2_with fail
  refine (draw_macValid _ _ _ _ _ W0.out).mono ?_
  rintro e w1 ⟨A, n, c, R, k, d, B, m, g, X, rfl, hx, b1⟩
  obtain ⟨WX, hWX⟩ : ∃ WX, WX = w1.alloc (.cells #[.slice A n c, .slice R k d, .int .i64 X.mem.bank, .int .i64 X.a, .int .i64 X.at_, .bool X.carry, .slice B m g, .bool X.stop, .int .i64 X.cyc] 28) := ⟨_, rfl⟩
  have B1 : Hid (Below w.heap.size w WX) := by rw [hWX]; exact b1.alloc b1.size _
  have X1 : Hid (Box WX w1.heap.size 28 [.slice A n c, .slice R k d, .int .i64 X.mem.bank, .int .i64 X.a, .int .i64 X.at_, .bool X.carry, .slice B m g, .bool X.stop, .int .i64 X.cyc]) := by rw [hWX]; exact Box.new w1 _ _
  have H1 : Hid (MacHere WX A n c R k d B m g X) := by rw [hWX]; exact hx.below (below1 w1 _)
  clear b1 hx
  go_upto_region 4 with (fail)
  rw [← hWX]
  generalize w1.heap.size = bx at X1
  clear hWX
  have c0 : WX.cell? ⟨bx, 0, none⟩ = some (.slice A n c) := X1.out.cell 0
  have c1 : WX.cell? ⟨bx, 1, none⟩ = some (.slice R k d) := X1.out.cell 1
  have c2 : WX.cell? ⟨bx, 2, none⟩ = some (.int .i64 X.mem.bank) := X1.out.cell 2
  have c3 : WX.cell? ⟨bx, 3, none⟩ = some (.int .i64 X.a) := X1.out.cell 3
  have c4 : WX.cell? ⟨bx, 4, none⟩ = some (.int .i64 X.at_) := X1.out.cell 4
  have c5 : WX.cell? ⟨bx, 5, none⟩ = some (.bool X.carry) := X1.out.cell 5
  have c6 : WX.cell? ⟨bx, 6, none⟩ = some (.slice B m g) := X1.out.cell 6
  have c7 : WX.cell? ⟨bx, 7, none⟩ = some (.bool X.stop) := X1.out.cell 7
  have c8 : WX.cell? ⟨bx, 8, none⟩ = some (.int .i64 X.cyc) := X1.out.cell 8

  go_wp2_with fail
  refine (mac_impl H1.out).mono ?_; rintro e w2 ⟨rfl, b2⟩
  have X2 := Lib.hid (X1.out.below b2)
  have H2 := Lib.hid (H1.out.below b2)
  have B2 := Lib.hid (B1.out.trans (b2.mono B1.out.size))
  clear b2 c0 c1 c2 c3 c4 c5 c6 c7 c8 X1 H1 B1
  have c0 : w2.cell? ⟨bx, 0, none⟩ = some (.slice A n c) := X2.out.cell 0
  have c1 : w2.cell? ⟨bx, 1, none⟩ = some (.slice R k d) := X2.out.cell 1
  have c2 : w2.cell? ⟨bx, 2, none⟩ = some (.int .i64 X.mem.bank) := X2.out.cell 2
  have c3 : w2.cell? ⟨bx, 3, none⟩ = some (.int .i64 X.a) := X2.out.cell 3
  have c4 : w2.cell? ⟨bx, 4, none⟩ = some (.int .i64 X.at_) := X2.out.cell 4
  have c5 : w2.cell? ⟨bx, 5, none⟩ = some (.bool X.carry) := X2.out.cell 5
  have c6 : w2.cell? ⟨bx, 6, none⟩ = some (.slice B m g) := X2.out.cell 6
  have c7 : w2.cell? ⟨bx, 7, none⟩ = some (.bool X.stop) := X2.out.cell 7
  have c8 : w2.cell? ⟨bx, 8, none⟩ = some (.int .i64 X.cyc) := X2.out.cell 8

  go_wp2_with fail
  refine (mac_spec H2.out).mono ?_; rintro e w3 ⟨rfl, b3⟩
  have X3 := Lib.hid (X2.out.below b3)
  have H3 := Lib.hid (H2.out.below b3)
  have B3 := Lib.hid (B2.out.trans (b3.mono B2.out.size))
  clear b3 c0 c1 c2 c3 c4 c5 c6 c7 c8 X2 H2 B2
  generalize machB X = V
  have c0 : w3.cell? ⟨bx, 0, none⟩ = some (.slice A n c) := X3.out.cell 0
  have c1 : w3.cell? ⟨bx, 1, none⟩ = some (.slice R k d) := X3.out.cell 1
  have c2 : w3.cell? ⟨bx, 2, none⟩ = some (.int .i64 X.mem.bank) := X3.out.cell 2
  have c3 : w3.cell? ⟨bx, 3, none⟩ = some (.int .i64 X.a) := X3.out.cell 3
  have c4 : w3.cell? ⟨bx, 4, none⟩ = some (.int .i64 X.at_) := X3.out.cell 4
  have c5 : w3.cell? ⟨bx, 5, none⟩ = some (.bool X.carry) := X3.out.cell 5
  have c6 : w3.cell? ⟨bx, 6, none⟩ = some (.slice B m g) := X3.out.cell 6
  have c7 : w3.cell? ⟨bx, 7, none⟩ = some (.bool X.stop) := X3.out.cell 7
  have c8 : w3.cell? ⟨bx, 8, none⟩ = some (.int .i64 X.cyc) := X3.out.cell 8

  have hmk := make9
  have zx : bx < w3.heap.size := X3.out.lt
  go_upto_region 9 with (fail)
  obtain ⟨W, hW⟩ : ∃ W, W = (w3.alloc (.cells #[.slice A n c, .slice R k d, .int .i64 X.mem.bank, .int .i64 X.a, .int .i64 X.at_, .bool X.carry, .slice (some ⟨w3.heap.size + 1, 0, none⟩) 9 9, .bool X.stop, .int .i64 X.cyc] 28)).alloc (.cells (madeCells #[.int .i64 0] 9) 3) := ⟨_, rfl⟩
  rw [← hW]
  have XW : Hid (Box W bx 28 [.slice A n c, .slice R k d, .int .i64 X.mem.bank, .int .i64 X.a, .int .i64 X.at_, .bool X.carry, .slice B m g, .bool X.stop, .int .i64 X.cyc]) := by rw [hW]; exact (X3.out.alloc _).alloc _
  have YW : Hid (Box W w3.heap.size 28 [.slice A n c, .slice R k d, .int .i64 X.mem.bank, .int .i64 X.a, .int .i64 X.at_, .bool X.carry, .slice (some ⟨w3.heap.size + 1, 0, none⟩) 9 9, .bool X.stop, .int .i64 X.cyc]) := by rw [hW]; exact (Box.new w3 _ _).alloc _
  have BW : Hid (Below w3.heap.size w3 W) := by rw [hW]; exact below2 w3 _ _
  have HW := Lib.hid (H3.out.below BW.out)
  have IW : Hid (Ints W (some ⟨w3.heap.size + 1, 0, none⟩) 9 nines [w3.heap.size + 1]) := by
    have h := ints_made9 (w3.alloc (.cells #[.slice A n c, .slice R k d, .int .i64 X.mem.bank, .int .i64 X.a, .int .i64 X.at_, .bool X.carry, .slice (some ⟨w3.heap.size + 1, 0, none⟩) 9 9, .bool X.stop, .int .i64 X.cyc] 28))
    rw [show (w3.alloc (.cells #[.slice A n c, .slice R k d, .int .i64 X.mem.bank, .int .i64 X.a, .int .i64 X.at_, .bool X.carry, .slice (some ⟨w3.heap.size + 1, 0, none⟩) 9 9, .bool X.stop, .int .i64 X.cyc] 28)).heap.size = w3.heap.size + 1 from by simp] at h
    rw [hW]; exact h
  have HA := Lib.hid (HW.out.putBack IW.out)
  have B4 := Lib.hid (B3.out.trans (BW.out.mono B3.out.size))
  clear hW c0 c1 c2 c3 c4 c5 c6 c7 c8 X3 H3 B3 BW IW zx
  generalize w3.heap.size + 1 = bm at YW HA
  generalize w3.heap.size = ba at YW ⊢
  have c0 : W.cell? ⟨bx, 0, none⟩ = some (.slice A n c) := XW.out.cell 0
  have c1 : W.cell? ⟨bx, 1, none⟩ = some (.slice R k d) := XW.out.cell 1
  have c2 : W.cell? ⟨bx, 2, none⟩ = some (.int .i64 X.mem.bank) := XW.out.cell 2
  have c3 : W.cell? ⟨bx, 3, none⟩ = some (.int .i64 X.a) := XW.out.cell 3
  have c4 : W.cell? ⟨bx, 4, none⟩ = some (.int .i64 X.at_) := XW.out.cell 4
  have c5 : W.cell? ⟨bx, 5, none⟩ = some (.bool X.carry) := XW.out.cell 5
  have c6 : W.cell? ⟨bx, 6, none⟩ = some (.slice B m g) := XW.out.cell 6
  have c7 : W.cell? ⟨bx, 7, none⟩ = some (.bool X.stop) := XW.out.cell 7
  have c8 : W.cell? ⟨bx, 8, none⟩ = some (.int .i64 X.cyc) := XW.out.cell 8

  go_upto_region 11 with (fail)
  obtain ⟨W2, hW2⟩ : ∃ W2, W2 = W.alloc (.cells #[.slice A n c, .slice R k d, .int .i64 X.mem.bank, .int .i64 256, .int .i64 X.at_, .bool X.carry, .slice B m g, .bool X.stop, .int .i64 X.cyc] 28) := ⟨_, rfl⟩
  rw [← hW2]
  have YA : Hid (Box W2 ba 28 [.slice A n c, .slice R k d, .int .i64 X.mem.bank, .int .i64 X.a, .int .i64 X.at_, .bool X.carry, .slice (some ⟨bm, 0, none⟩) 9 9, .bool X.stop, .int .i64 X.cyc]) := by rw [hW2]; exact YW.out.alloc _
  have YB : Hid (Box W2 W.heap.size 28 [.slice A n c, .slice R k d, .int .i64 X.mem.bank, .int .i64 256, .int .i64 X.at_, .bool X.carry, .slice B m g, .bool X.stop, .int .i64 X.cyc]) := by rw [hW2]; exact Box.new W _ _
  have HA2 : Hid (MacHere W2 A n c R k d (some ⟨bm, 0, none⟩) 9 9 { X with back := nines }) := by rw [hW2]; exact HA.out.below (below1 W _)
  have HB2 : Hid (MacHere W2 A n c R k d B m g { X with a := 256 }) := by rw [hW2]; exact (HW.out.putA 256).below (below1 W _)
  have B5 : Hid (Below w.heap.size w W2) := by rw [hW2]; exact B4.out.alloc B4.out.size _
  clear hW2 c0 c1 c2 c3 c4 c5 c6 c7 c8 XW YW HW HA B4
  generalize W.heap.size = bb at YB ⊢
  have c0 : W2.cell? ⟨ba, 0, none⟩ = some (.slice A n c) := YA.out.cell 0
  have c1 : W2.cell? ⟨ba, 1, none⟩ = some (.slice R k d) := YA.out.cell 1
  have c2 : W2.cell? ⟨ba, 2, none⟩ = some (.int .i64 X.mem.bank) := YA.out.cell 2
  have c3 : W2.cell? ⟨ba, 3, none⟩ = some (.int .i64 X.a) := YA.out.cell 3
  have c4 : W2.cell? ⟨ba, 4, none⟩ = some (.int .i64 X.at_) := YA.out.cell 4
  have c5 : W2.cell? ⟨ba, 5, none⟩ = some (.bool X.carry) := YA.out.cell 5
  have c6 : W2.cell? ⟨ba, 6, none⟩ = some (.slice (some ⟨bm, 0, none⟩) 9 9) := YA.out.cell 6
  have c7 : W2.cell? ⟨ba, 7, none⟩ = some (.bool X.stop) := YA.out.cell 7
  have c8 : W2.cell? ⟨ba, 8, none⟩ = some (.int .i64 X.cyc) := YA.out.cell 8

  go_wp2_with fail
  refine (mac_impl HA2.out).mono ?_; rintro e w5 ⟨rfl, b5⟩
  rw [nines_no]
  have YB5 := Lib.hid (YB.out.below b5)
  have HB5 := Lib.hid (HB2.out.below b5)
  have B6 := Lib.hid (B5.out.trans (b5.mono B5.out.size))
  clear b5 c0 c1 c2 c3 c4 c5 c6 c7 c8 YA HA2 YB HB2 B5
  have c0 : w5.cell? ⟨bb, 0, none⟩ = some (.slice A n c) := YB5.out.cell 0
  have c1 : w5.cell? ⟨bb, 1, none⟩ = some (.slice R k d) := YB5.out.cell 1
  have c2 : w5.cell? ⟨bb, 2, none⟩ = some (.int .i64 X.mem.bank) := YB5.out.cell 2
  have c3 : w5.cell? ⟨bb, 3, none⟩ = some (.int .i64 256) := YB5.out.cell 3
  have c4 : w5.cell? ⟨bb, 4, none⟩ = some (.int .i64 X.at_) := YB5.out.cell 4
  have c5 : w5.cell? ⟨bb, 5, none⟩ = some (.bool X.carry) := YB5.out.cell 5
  have c6 : w5.cell? ⟨bb, 6, none⟩ = some (.slice B m g) := YB5.out.cell 6
  have c7 : w5.cell? ⟨bb, 7, none⟩ = some (.bool X.stop) := YB5.out.cell 7
  have c8 : w5.cell? ⟨bb, 8, none⟩ = some (.int .i64 X.cyc) := YB5.out.cell 8

  go_wp2_with fail
  refine (mac_impl HB5.out).mono ?_; rintro e w6 ⟨rfl, b6⟩
  rw [large_no]
  have B7 := Lib.hid (B6.out.trans (b6.mono B6.out.size))
  clear b6 c0 c1 c2 c3 c4 c5 c6 c7 c8 YB5 HB5 B6
  go_wp2_with fail
  refine (alive_any _).mono ?_; rintro e w' ⟨rfl, rfl⟩
  go_wp2_with fail
  go_ret
  exact ⟨rfl, B7.out⟩
end Go.Proofs.Ytnfphdpoimjcmaa
