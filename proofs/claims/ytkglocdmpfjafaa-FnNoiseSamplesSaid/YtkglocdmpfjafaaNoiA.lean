/- Noise: the program's and the model's functions on one state. -/
import Derived.Test.YtkglocdmpfjafaaNoiG
import Derived.Test.YtkglocdmpfjafaaGC
import Derived.Test.YtkglocdmpfjafaaArrA
import Derived.Test.YtkglocdmpfjafaaGA
namespace Go.Proofs.Ytkglocdmpfjafaa
open Go.ChangeShapes Go.WideShapes Go.ChangeAt Go.RowKit
set_option linter.unusedVariables false

theorem im_isState (x : Int) (w : World) : Calls Try.prog 26 #[.int .i64 x] w fun e w' => e = .returned (.bool (betB x 1 32767)) ∧ w = w' := by
  by_cases h0 : 1 ≤ x
  · by_cases h1 : x ≤ 32767
    · have HB := Lib.hid (betB_is.2 (show 1 ≤ x ∧ x ≤ 32767 by omega))
      go_enter Try.func26, Try.ntmps26
      go_wp2_with fail
      go_ret
      exact ⟨ret_bool HB.out.symm, rfl⟩
    · have HB := Lib.hid (betB_not (show ¬ (1 ≤ x ∧ x ≤ 32767) by omega))
      have hd : decide (x ≤ 32767) = false := by simp; omega
      clear h1
      go_enter Try.func26, Try.ntmps26
      go_wp2_with fail
      go_ret
      exact ⟨ret_bool HB.out.symm, rfl⟩
  · have HB := Lib.hid (betB_not (show ¬ (1 ≤ x ∧ x ≤ 32767) by omega))
    have hd : decide (1 ≤ x) = false := by simp; omega
    clear h0
    go_enter Try.func26, Try.ntmps26
    go_wp2_with fail
    go_ret
    exact ⟨ret_bool HB.out.symm, rfl⟩
theorem im_isSamples (x : Int) (w : World) : Calls Try.prog 31 #[.int .i64 x] w fun e w' => e = .returned (.bool (betB x 0 400)) ∧ w = w' := by
  by_cases h0 : 0 ≤ x
  · by_cases h1 : x ≤ 400
    · have HB := Lib.hid (betB_is.2 (show 0 ≤ x ∧ x ≤ 400 by omega))
      go_enter Try.func31, Try.ntmps31
      go_wp2_with fail
      go_ret
      exact ⟨ret_bool HB.out.symm, rfl⟩
    · have HB := Lib.hid (betB_not (show ¬ (0 ≤ x ∧ x ≤ 400) by omega))
      have hd : decide (x ≤ 400) = false := by simp; omega
      clear h1
      go_enter Try.func31, Try.ntmps31
      go_wp2_with fail
      go_ret
      exact ⟨ret_bool HB.out.symm, rfl⟩
  · have HB := Lib.hid (betB_not (show ¬ (0 ≤ x ∧ x ≤ 400) by omega))
    have hd : decide (0 ≤ x) = false := by simp; omega
    clear h0
    go_enter Try.func31, Try.ntmps31
    go_wp2_with fail
    go_ret
    exact ⟨ret_bool HB.out.symm, rfl⟩
theorem digit_at {S : Nat} (h : S ≤ 32767) : bits .and .i64 (bits .xor .i64 (S : Int) ((S : Int) / 2)) 1 = (((S ^^^ S / 2) % 2 : Nat) : Int) := by
  have hx : S ^^^ S / 2 < 2 ^ 15 := Nat.xor_lt_two_pow (by omega) (by omega)
  have e1 : (S : Int) / 2 = ((S / 2 : Nat) : Int) := by omega
  rw [e1, xor_i64_nat S (S / 2) (by omega) (by omega), and1_i64 _ (by omega)]
theorem step_at {S : Nat} (h : S ≤ 32767) : bits .or .i64 ((S : Int) / 2) (wrap64 (bits .and .i64 (bits .xor .i64 (S : Int) ((S : Int) / 2)) 1 * 16384)) = (nx S : Int) := by
  have e1 : (S : Int) / 2 = ((S / 2 : Nat) : Int) := by omega
  rw [digit_at h, IntWalk.wrap64_in _ (by omega), e1, show (((S ^^^ S / 2) % 2 : Nat) : Int) * 16384 = (((S ^^^ S / 2) % 2 * 16384 : Nat) : Int) by omega, orN_i64 _ _ (by omega) (by omega), nx_or h]
theorem im_step (S : Nat) (h : S ≤ 32767) (w : World) : Calls Try.prog 27 #[.int .i64 (S : Int)] w fun e w' => e = .returned (.int .i64 (nx S : Int)) ∧ w = w' := by
  have HS := Lib.hid h
  have h0 : (0 : Int) ≤ S := by omega
  clear h
  go_enter Try.func27, Try.ntmps27
  go_wp2_with fail
  go_ret
  refine ⟨?_, rfl⟩
  show Ending.returned (Value.int .i64 (bits .or .i64 ((S : Int) / 2) (wrap64 (bits .and .i64 (bits .xor .i64 (S : Int) ((S : Int) / 2)) 1 * 16384)))) = _
  rw [step_at HS.out]
theorem im_next (x : Int) (w : World) : Calls Try.prog 11 #[.int .i64 x] w fun e w' => e = .returned (.int .i64 (nxT x)) ∧ w = w' := by
  cases hb : betB x 1 32767
  · rw [nxT_no hb]
    have HB := Lib.hid hb
    clear hb
    go_enter Try.func11, Try.ntmps11
    go_wp2_with fail
    refine (im_isState x _).mono ?_; rintro e' w' ⟨rfl, rfl⟩
    rw [HB.out]
    go_wp2_with fail
    go_ret
    exact ⟨rfl, rfl⟩
  · obtain ⟨h1, h2⟩ := betB_is.1 hb
    obtain ⟨S, rfl⟩ := Int.eq_ofNat_of_zero_le (show 0 ≤ x by omega)
    have HS : Hid (S ≤ 32767) := Lib.hid (by omega)
    rw [nxT_at (by omega) (by omega)]
    have HB := Lib.hid hb
    clear hb h1 h2
    go_enter Try.func11, Try.ntmps11
    go_wp2_with fail
    refine (im_isState _ _).mono ?_; rintro e' w' ⟨rfl, rfl⟩
    rw [HB.out]
    go_wp2_with fail
    refine (im_step S HS.out _).mono ?_; rintro e' w' ⟨rfl, rfl⟩
    go_wp2_with fail
    go_ret
    exact ⟨rfl, rfl⟩
theorem model_at {S : Nat} (h : S ≤ 32767) : wrap64 ((S : Int) / 2 + wrap64 ((bits .xor .i64 (S : Int) ((S : Int) / 2)).tmod 2 * 16384)) = (nx S : Int) := by
  have e1 : (S : Int) / 2 = ((S / 2 : Nat) : Int) := by omega
  rw [e1, xor_i64_nat S (S / 2) (by omega) (by omega), Int.tmod_eq_emod_of_nonneg (by omega), IntWalk.wrap64_in (_ * 16384) (by omega), IntWalk.wrap64_in _ (by omega)]
  unfold nx
  omega
theorem spec_next (x : Int) (w : World) : Calls Try.prog 12 #[.int .i64 x] w fun e w' => e = .returned (.int .i64 (nxT x)) ∧ w = w' := by
  cases hb : betB x 1 32767
  · rw [nxT_no hb]
    have HB := Lib.hid hb
    clear hb
    go_enter Try.func12, Try.ntmps12
    go_wp2_with fail
    refine (l1In_any x 1 32767 _).mono ?_; rintro e' w' ⟨rfl, rfl⟩
    rw [HB.out]
    go_wp2_with fail
    go_ret
    exact ⟨rfl, rfl⟩
  · obtain ⟨h1, h2⟩ := betB_is.1 hb
    obtain ⟨S, rfl⟩ := Int.eq_ofNat_of_zero_le (show 0 ≤ x by omega)
    have HS : Hid (S ≤ 32767) := Lib.hid (by omega)
    have h0 : (0 : Int) ≤ S := by omega
    have h3 : (S : Int) ≤ 32767 := by omega
    rw [nxT_at (by omega) (by omega)]
    have HB := Lib.hid hb
    clear hb h1 h2
    go_enter Try.func12, Try.ntmps12
    go_wp2_with fail
    refine (l1In_any _ 1 32767 _).mono ?_; rintro e' w' ⟨rfl, rfl⟩
    rw [HB.out]
    go_wp2_with fail
    go_ret
    refine ⟨?_, rfl⟩
    show Ending.returned (Value.int .i64 (wrap64 ((S : Int) / 2 + wrap64 ((bits .xor .i64 (S : Int) ((S : Int) / 2)).tmod 2 * 16384)))) = _
    rw [model_at HS.out]
end Go.Proofs.Ytkglocdmpfjafaa
