/- The program's tests of backgrounds. -/
import Derived.Test.YtddllcgbdgpkbaaFldM
import Derived.Test.YtddllcgbdgpkbaaTilT
import Derived.Test.YtddllcgbdgpkbaaTilY
import Derived.Test.YtddllcgbdgpkbaaGrow
import Derived.Deep.MidRow
namespace Go.Proofs.Ytddllcgbdgpkbaa
open Go.ChangeShapes Go.WideShapes Go.ChangeAt Go.RowKit
set_option linter.unusedVariables false

/-- A background's value. -/
abbrev fldV (W : Int) (A : Option Addr) (n c : Nat) (T : Option Addr) (m d : Nat) (sx sy : Int) : Value := .agg #[.int .i64 W, .slice A n c, .slice T m d, .int .i64 sx, .int .i64 sy]
theorem im_rows (W : Int) (A : Option Addr) (n c : Nat) (T : Option Addr) (m d : Nat) (sx sy : Int) (w : World) (h1 : 1 ≤ W) (h8 : W ≤ 8) (hn : n ≤ 1000000000) :
    Calls Try.prog 70 #[fldV W A n c T m d sx sy] w fun e w' => e = .returned (.int .i64 ((n : Int) / W)) ∧ Below w.heap.size w w' := by
  have n0 : (0 : Int) ≤ n := by omega
  have w0 : W ≠ 0 := by omega
  have q0 : 0 ≤ (n : Int) / W := Int.ediv_nonneg (by omega) (by omega)
  have q1 : (n : Int) / W ≤ 1000000000 := Int.le_trans (Int.ediv_le_self _ (by omega)) (by omega)
  go_enter Try.func70, Try.ntmps70
  go_wp2_with fail
  go_ret
  exact ⟨rfl, below1 w _⟩
theorem im_width (W : Int) (A : Option Addr) (n c : Nat) (T : Option Addr) (m d : Nat) (sx sy : Int) (w : World) (h1 : 1 ≤ W) (h8 : W ≤ 8) :
    Calls Try.prog 72 #[fldV W A n c T m d sx sy] w fun e w' => e = .returned (.int .i64 (8 * W)) ∧ Below w.heap.size w w' := by
  go_enter Try.func72, Try.ntmps72
  go_wp2_with fail
  go_ret
  exact ⟨ret_int (Int.mul_comm W 8), below1 w _⟩
theorem im_height (W : Int) (A : Option Addr) (n c : Nat) (T : Option Addr) (m d : Nat) (sx sy : Int) (w : World) (h1 : 1 ≤ W) (h8 : W ≤ 8) (hn : n ≤ 1000000000) :
    Calls Try.prog 73 #[fldV W A n c T m d sx sy] w fun e w' => e = .returned (.int .i64 (8 * ((n : Int) / W))) ∧ Below w.heap.size w w' := by
  have n0 : (0 : Int) ≤ n := by omega
  have q0 : 0 ≤ (n : Int) / W := Int.ediv_nonneg (by omega) (by omega)
  have q1 : (n : Int) / W ≤ 1000000000 := Int.le_trans (Int.ediv_le_self _ (by omega)) (by omega)
  obtain ⟨R, hR⟩ : ∃ R, R = (n : Int) / W := ⟨_, rfl⟩
  go_enter Try.func73, Try.ntmps73
  go_wp2_with fail
  refine (im_rows W A n c T m d sx sy _ h1 h8 hn).mono ?_; rintro e w1 ⟨rfl, b1⟩
  rw [← hR] at q0 q1 ⊢
  have BB := Lib.hid (below_then (below1 w _) b1)
  have HR := Lib.hid hR
  clear b1 hR
  go_wp2_with fail
  go_ret
  exact ⟨ret_int (by rw [← HR.out, Int.mul_comm]), BB.out⟩
set_option maxHeartbeats 1000000 in
theorem im_table (W : Int) (A : Option Addr) (n c : Nat) (T : Option Addr) (m d : Nat) (sx sy : Int) (w : World) (hn : n ≤ 1000000000) :
    Calls Try.prog 63 #[fldV W A n c T m d sx sy] w fun e w' => e = .returned (.bool (tblB W n)) ∧ Below w.heap.size w w' := by
  have n0 : (0 : Int) ≤ n := by omega
  have B1 := Lib.hid (below1 w (.cells #[.int .i64 W, .slice A n c, .slice T m d, .int .i64 sx, .int .i64 sy] 33))
  by_cases h1 : W < 1
  · have HF : Hid (tblB W n = false) := Lib.hid (by simp [tblB, betB]; omega)
    go_enter Try.func63, Try.ntmps63
    go_wp2_with fail
    go_ret
    exact ⟨ret_bool HF.out.symm, by first | exact B1.out | (rw [hbb]; exact B1.out)⟩
  by_cases h8 : 8 < W
  · have HF : Hid (tblB W n = false) := Lib.hid (by simp [tblB, betB]; omega)
    go_enter Try.func63, Try.ntmps63
    go_wp2_with fail
    go_ret
    exact ⟨ret_bool HF.out.symm, by first | exact B1.out | (rw [hbb]; exact B1.out)⟩
  have w0 : W ≠ 0 := by omega
  by_cases hr : (n : Int) % W = 0
  · have q0 : 0 ≤ (n : Int) / W := Int.ediv_nonneg (by omega) (by omega)
    have q1 : (n : Int) / W ≤ 1000000000 := Int.le_trans (Int.ediv_le_self _ (by omega)) (by omega)
    obtain ⟨R, hR⟩ : ∃ R, R = (n : Int) / W := ⟨_, rfl⟩
    have HT : Hid (tblB W n = betB R 1 8) := Lib.hid (by
      unfold tblB
      rw [← hR, show betB W 1 8 = true from betB_iff.2 ⟨by omega, by omega⟩, hr]
      rfl)
    rw [← hR] at q0 q1
    go_enter Try.func63, Try.ntmps63
    go_wp2_with fail
    refine (im_rows W A n c T m d sx sy _ (by omega) (by omega) hn).mono ?_; rintro e w1 ⟨rfl, b1⟩
    rw [← hR]
    have X1 := Lib.hid ((Box.new w #[.int .i64 W, .slice A n c, .slice T m d, .int .i64 sx, .int .i64 sy] 33).below b1)
    have B2 := Lib.hid (below_then B1.out b1)
    clear b1 B1
    by_cases r1 : 1 ≤ R
    · have c0 := X1.out.cell 0
      have c1 := X1.out.cell 1
      have c2 := X1.out.cell 2
      have c3 := X1.out.cell 3
      have c4 := X1.out.cell 4
      go_wp2_with fail
      refine (im_rows W A n c T m d sx sy _ (by omega) (by omega) hn).mono ?_; rintro e w2 ⟨rfl, b2⟩
      rw [← hR]
      have B3 := Lib.hid (below_then B2.out b2)
      clear b2 B2 hR
      by_cases r8 : R ≤ 8
      · have HF : Hid (betB R 1 8 = true) := Lib.hid (betB_iff.2 ⟨r1, r8⟩)
        go_wp2_with fail
        go_ret
        exact ⟨ret_bool (by rw [HT.out, HF.out]), B3.out⟩
      · have HF : Hid (betB R 1 8 = false) := Lib.hid (by simp [betB]; omega)
        have hd : decide (R ≤ 8) = false := by simp; omega
        clear r8
        go_wp2_with fail
        go_ret
        exact ⟨ret_bool (by rw [HT.out, HF.out]), B3.out⟩
    · have HF : Hid (betB R 1 8 = false) := Lib.hid (by simp [betB]; omega)
      have hd : decide (1 ≤ R) = false := by simp; omega
      clear hR r1
      go_wp2_with fail
      go_ret
      exact ⟨ret_bool (by rw [HT.out, HF.out]), B2.out⟩
  · have HF : Hid (tblB W n = false) := Lib.hid (by simp [tblB, hr])
    go_enter Try.func63, Try.ntmps63
    go_wp2_with fail
    go_ret
    exact ⟨ret_bool HF.out.symm, by first | exact B1.out | (rw [hbb]; exact B1.out)⟩
theorem im_isShift (x : Int) (w : World) : Calls Try.prog 47 #[.int .i64 x] w fun e w' => e = .returned (.bool (betB x 0 255)) ∧ w = w' := by
  by_cases h0 : 0 ≤ x
  · by_cases h1 : x ≤ 255
    · have HB := Lib.hid (betB_iff.2 ⟨h0, h1⟩)
      go_enter Try.func47, Try.ntmps47
      go_wp2_with fail
      go_ret
      exact ⟨ret_bool HB.out.symm, rfl⟩
    · have HB : Hid (betB x 0 255 = false) := Lib.hid (by simp [betB]; omega)
      have hd : decide (x ≤ 255) = false := by simp; omega
      clear h1
      go_enter Try.func47, Try.ntmps47
      go_wp2_with fail
      go_ret
      exact ⟨ret_bool HB.out.symm, rfl⟩
  · have HB : Hid (betB x 0 255 = false) := Lib.hid (by simp [betB]; omega)
    have hd : decide (0 ≤ x) = false := by simp; omega
    clear h0
    go_enter Try.func47, Try.ntmps47
    go_wp2_with fail
    go_ret
    exact ⟨ret_bool HB.out.symm, rfl⟩
set_option maxHeartbeats 1000000 in
theorem im_known (W : Int) (A : Option Addr) (n c : Nat) (T : Option Addr) (m d : Nat) (sx sy : Int) (xs : List Int) (fa : List Nat) (w : World) (ha : Ints w A n xs fa) (hn : n ≤ 1000000000) (hm : m ≤ 1000000000) :
    Calls Try.prog 64 #[fldV W A n c T m d sx sy] w fun e w' => e = .returned (.bool (knownB m xs)) ∧ Below w.heap.size w w' := by
  have B1 := Lib.hid (below1 w (.cells #[.int .i64 W, .slice A n c, .slice T m d, .int .i64 sx, .int .i64 sy] 33))
  have X1 := Lib.hid (Box.new w #[.int .i64 W, .slice A n c, .slice T m d, .int .i64 sx, .int .i64 sy] 33)
  have HA := Lib.hid (ha.below (below1 w (.cells #[.int .i64 W, .slice A n c, .slice T m d, .int .i64 sx, .int .i64 sy] 33)))
  have HL := Lib.hid ha.1
  clear ha
  go_enter Try.func64, Try.ntmps64
  go_wp2_with fail
  generalize w.alloc (.cells #[.int .i64 W, .slice A n c, .slice T m d, .int .i64 sx, .int .i64 sy] 33) = w1 at X1 B1 HA ⊢
  generalize hbb : w.heap.size = bb at X1 B1 ⊢
  go_loopw [8] (fun i wr => ∃ k : Nat, k ≤ n ∧ i = .int .i64 k ∧ wr = w1 ∧ ∀ j, j < k → betB (xs.getD j 0) 0 ((m : Int) - 1) = true) (fun i _ => n - (intOf i).toNat)
  case atStart => exact ⟨0, by omega, rfl, rfl, fun j hj => by omega⟩
  case round =>
    obtain ⟨k, hk, rfl, rfl, hall⟩ := hrel
    have HK := Lib.hid hall
    clear hall
    by_cases hlt : k < n
    · obtain ⟨p, o, rfl, _, _, hc⟩ := HA.out.at_ (by omega)
      have c1 := hc k hlt
      clear hc
      have c2 : wr.cell? ⟨bb, 2, none⟩ = some (.slice T m d) := X1.out.cell 2
      obtain ⟨x, hx⟩ : ∃ x, xs.getD k 0 = x := ⟨_, rfl⟩
      rw [hx] at c1
      have HX := Lib.hid hx
      clear hx
      by_cases h0 : x < 0
      · have HF := Lib.hid (knownB_no (n := m) (xs := xs) k (by rw [HL.out]; exact hlt) (by rw [HX.out]; simp [betB]; omega))
        go_wp2_with fail
        go_ret
        exact ⟨ret_bool HF.out.symm, by first | exact B1.out | (rw [hbb]; exact B1.out)⟩
      by_cases h1 : (m : Int) ≤ x
      · have HF := Lib.hid (knownB_no (n := m) (xs := xs) k (by rw [HL.out]; exact hlt) (by rw [HX.out]; simp [betB]; omega))
        go_wp2_with fail
        go_ret
        exact ⟨ret_bool HF.out.symm, by first | exact B1.out | (rw [hbb]; exact B1.out)⟩
      have HB : Hid (betB x 0 ((m : Int) - 1) = true) := Lib.hid (betB_iff.2 ⟨by omega, by omega⟩)
      have hd : decide ((m : Int) ≤ x) = false := by simp; omega
      clear h1
      go_wp2_with fail
      go_roundw
      case rel => exact ⟨k + 1, by omega, by go_num, trivial, fun j hj => by
        by_cases e : j = k
        · subst e; rw [HX.out]; exact HB.out
        · exact HK.out j (by omega)⟩
      case measure => simp [intOf]; omega
    · have HF := Lib.hid (knownB_iff (n := m) (xs := xs) |>.2 fun j hj => HK.out j (by rw [HL.out] at hj; omega))
      go_wp2_with fail
      go_ret
      exact ⟨ret_bool HF.out.symm, by first | exact B1.out | (rw [hbb]; exact B1.out)⟩
end Go.Proofs.Ytddllcgbdgpkbaa
