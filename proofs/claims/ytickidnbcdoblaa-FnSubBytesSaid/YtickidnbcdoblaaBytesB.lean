/- Contracts of the model's functions on bytes (chapter 1), for bytes and for other numbers: the same results as the program's. -/
import Derived.Test.YtickidnbcdoblaaBytesA
namespace Go.Proofs.Ytickidnbcdoblaa
open Go.ChangeShapes Go.WideShapes Go.ChangeAt Go.RowKit

theorem bit_any (c : Bool) (w : World) :
    Calls Try.prog 44 #[.bool c] w fun e w' => e = .returned (.int .i64 (digi c)) ∧ w = w' := by
  cases c
  all_goals
    go_enter Try.func44, Try.ntmps44
    go_wp2
    go_ret
    exact ⟨rfl, rfl⟩
theorem in_any (n lo hi : Int) (w : World) :
    Calls Try.prog 45 #[.int .i64 n, .int .i64 lo, .int .i64 hi] w fun e w' => e = .returned (.bool (inB n lo hi)) ∧ w = w' := by
  by_cases h : lo ≤ n
  · by_cases k : n ≤ hi
    · rw [inB_yes h k]
      go_enter Try.func45, Try.ntmps45
      go_wp2
      go_ret
      exact ⟨rfl, rfl⟩
    · rw [inB_no (.inr (by omega))]
      have hk : decide (n ≤ hi) = false := by simp; omega
      go_enter Try.func45, Try.ntmps45
      go_wp2
      go_ret
      exact ⟨rfl, rfl⟩
  · rw [inB_no (.inl (by omega))]
    have hk : decide (lo ≤ n) = false := by simp; omega
    go_enter Try.func45, Try.ntmps45
    go_wp2
    go_ret
    exact ⟨rfl, rfl⟩
theorem byte_yes (a : Int) (w : World) (h0 : 0 ≤ a) (h1 : a ≤ 255) :
    Calls Try.prog 43 #[.int .i64 a] w fun e w' => e = .returned (.bool true) ∧ w = w' := by
  have H := Lib.hid (inB_yes h0 h1)
  rw [← H.out]
  go_enter Try.func43, Try.ntmps43
  go_wp2_with fail
  refine (in_any _ _ _ _).mono ?_; rintro e w' ⟨rfl, rfl⟩
  go_wp2_with fail
  go_ret
  exact ⟨rfl, rfl⟩
theorem byte_no (a : Int) (w : World) (h : a < 0 ∨ 255 < a) :
    Calls Try.prog 43 #[.int .i64 a] w fun e w' => e = .returned (.bool false) ∧ w = w' := by
  have H := Lib.hid (inB_no h)
  rw [← H.out]
  clear h
  go_enter Try.func43, Try.ntmps43
  go_wp2_with fail
  refine (in_any _ _ _ _).mono ?_; rintro e w' ⟨rfl, rfl⟩
  go_wp2_with fail
  go_ret
  exact ⟨rfl, rfl⟩
theorem spec_sgn (a : Int) (w : World) (h0 : 0 ≤ a) (h1 : a ≤ 255) :
    Calls Try.prog 27 #[.int .i64 a] w fun e w' => e = .returned (.int .i64 (sgn a)) ∧ w = w' := by
  by_cases h : a < 128
  · go_enter Try.func27, Try.ntmps27
    go_wp2_with fail
    refine (byte_yes _ _ h0 h1).mono ?_; rintro e w' ⟨rfl, rfl⟩
    go_wp2_with fail
    go_ret
    exact ⟨ret_int (by unfold sgn; rw [if_neg (by omega)]), rfl⟩
  · have H : 128 ≤ a := by omega
    clear h
    go_enter Try.func27, Try.ntmps27
    go_wp2_with fail
    refine (byte_yes _ _ h0 h1).mono ?_; rintro e w' ⟨rfl, rfl⟩
    go_wp2_with fail
    go_ret
    exact ⟨ret_int (by unfold sgn; rw [if_pos (by omega)]), rfl⟩
theorem spec_sgn_no (a : Int) (w : World) (h : a < 0 ∨ 255 < a) :
    Calls Try.prog 27 #[.int .i64 a] w fun e w' => e = .returned (.int .i64 0) ∧ w = w' := by
  have H := Lib.hid h
  clear h
  go_enter Try.func27, Try.ntmps27
  go_wp2_with fail
  refine (byte_no _ _ H.out).mono ?_; rintro e w' ⟨rfl, rfl⟩
  go_wp2_with fail
  go_ret
  exact ⟨rfl, rfl⟩
theorem spec_add (a b : Int) (c : Bool) (w : World) (h0 : 0 ≤ a) (h1 : a ≤ 255) (h2 : 0 ≤ b) (h3 : b ≤ 255) :
    Calls Try.prog 19 #[.int .i64 a, .int .i64 b, .bool c] w fun e w' => e = .returned (.tuple #[.int .i64 (addN a b c), .bool (addC a b c), .bool (addV a b c)]) ∧ Below w.heap.size w w' := by
  obtain ⟨s0, s1⟩ := sgn_bd a h0 h1
  obtain ⟨s2, s3⟩ := sgn_bd b h2 h3
  obtain ⟨s4, s5⟩ := digi_bd c
  go_enter Try.func19, Try.ntmps19
  go_wp2_with (first | (go_at_call 43; refine (byte_yes _ _ (by omega) (by omega)).mono ?_; rintro e w' ⟨rfl, rfl⟩) | (go_at_call 44; refine (bit_any _ _).mono ?_; rintro e w' ⟨rfl, rfl⟩) | (go_at_call 45; refine (in_any _ _ _ _).mono ?_; rintro e w' ⟨rfl, rfl⟩) | (go_at_call 27; refine (spec_sgn _ _ (by omega) (by omega)).mono ?_; rintro e w' ⟨rfl, rfl⟩))
  go_ret3
  exact ⟨by rw [show addV a b c = !inB (sgn a + sgn b + digi c) (-128) 127 from (not_inB _ _ _).symm]; rfl, Below.refl _ _⟩
theorem spec_sub (a b : Int) (c : Bool) (w : World) (h0 : 0 ≤ a) (h1 : a ≤ 255) (h2 : 0 ≤ b) (h3 : b ≤ 255) :
    Calls Try.prog 25 #[.int .i64 a, .int .i64 b, .bool c] w fun e w' => e = .returned (.tuple #[.int .i64 (subN a b c), .bool (subC a b c)]) ∧ Below w.heap.size w w' := by
  obtain ⟨s4, s5⟩ := digi_bd c
  go_enter Try.func25, Try.ntmps25
  go_wp2_with (first | (go_at_call 43; refine (byte_yes _ _ (by omega) (by omega)).mono ?_; rintro e w' ⟨rfl, rfl⟩) | (go_at_call 44; refine (bit_any _ _).mono ?_; rintro e w' ⟨rfl, rfl⟩))
  go_ret2
  exact ⟨by rw [show subN a b c = (a - b - digi c + 256) % 256 by unfold subN; omega]; rfl, Below.refl _ _⟩
theorem spec_rol (a : Int) (c : Bool) (w : World) (h0 : 0 ≤ a) (h1 : a ≤ 255) :
    Calls Try.prog 30 #[.int .i64 a, .bool c] w fun e w' => e = .returned (.tuple #[.int .i64 (rolN a c), .bool (rolC a)]) ∧ Below w.heap.size w w' := by
  obtain ⟨s4, s5⟩ := digi_bd c
  go_enter Try.func30, Try.ntmps30
  go_wp2_with (first | (go_at_call 43; refine (byte_yes _ _ (by omega) (by omega)).mono ?_; rintro e w' ⟨rfl, rfl⟩) | (go_at_call 44; refine (bit_any _ _).mono ?_; rintro e w' ⟨rfl, rfl⟩))
  go_ret2
  exact ⟨rfl, Below.refl _ _⟩
theorem spec_ror (a : Int) (c : Bool) (w : World) (h0 : 0 ≤ a) (h1 : a ≤ 255) :
    Calls Try.prog 33 #[.int .i64 a, .bool c] w fun e w' => e = .returned (.tuple #[.int .i64 (rorN a c), .bool (rorC a)]) ∧ Below w.heap.size w w' := by
  obtain ⟨s4, s5⟩ := digi_bd c
  go_enter Try.func33, Try.ntmps33
  go_wp2_with (first | (go_at_call 43; refine (byte_yes _ _ (by omega) (by omega)).mono ?_; rintro e w' ⟨rfl, rfl⟩) | (go_at_call 44; refine (bit_any _ _).mono ?_; rintro e w' ⟨rfl, rfl⟩))
  go_ret2
  exact ⟨by rw [show rorC a = (a % 2 == 1) by unfold rorC; rw [Bool.eq_iff_iff]; simp]; rfl, Below.refl _ _⟩
theorem spec_add_no (a b : Int) (c : Bool) (w : World) (h : (a < 0 ∨ 255 < a) ∨ (b < 0 ∨ 255 < b)) :
    Calls Try.prog 19 #[.int .i64 a, .int .i64 b, .bool c] w fun e w' => e = .returned (.tuple #[.int .i64 0, .bool false, .bool false]) ∧ w = w' := by
  by_cases ha : a < 0 ∨ 255 < a
  · have H := Lib.hid ha
    clear h ha
    go_enter Try.func19, Try.ntmps19
    go_wp2_with (first | (go_at_call 43; refine (byte_no _ _ H.out).mono ?_; rintro e w' ⟨rfl, rfl⟩))
    go_ret3
    exact ⟨rfl, rfl⟩
  · have H := Lib.hid (show b < 0 ∨ 255 < b by omega)
    have h0 : 0 ≤ a := by omega
    have h1 : a ≤ 255 := by omega
    clear h ha
    go_enter Try.func19, Try.ntmps19
    go_wp2_with fail
    refine (byte_yes _ _ h0 h1).mono ?_; rintro e w' ⟨rfl, rfl⟩
    go_wp2_with fail
    refine (byte_no _ _ H.out).mono ?_; rintro e w' ⟨rfl, rfl⟩
    go_wp2_with fail
    go_ret3
    exact ⟨rfl, rfl⟩
theorem spec_sub_no (a b : Int) (c : Bool) (w : World) (h : (a < 0 ∨ 255 < a) ∨ (b < 0 ∨ 255 < b)) :
    Calls Try.prog 25 #[.int .i64 a, .int .i64 b, .bool c] w fun e w' => e = .returned (.tuple #[.int .i64 0, .bool false]) ∧ w = w' := by
  by_cases ha : a < 0 ∨ 255 < a
  · have H := Lib.hid ha
    clear h ha
    go_enter Try.func25, Try.ntmps25
    go_wp2_with (first | (go_at_call 43; refine (byte_no _ _ H.out).mono ?_; rintro e w' ⟨rfl, rfl⟩))
    go_ret2
    exact ⟨rfl, rfl⟩
  · have H := Lib.hid (show b < 0 ∨ 255 < b by omega)
    have h0 : 0 ≤ a := by omega
    have h1 : a ≤ 255 := by omega
    clear h ha
    go_enter Try.func25, Try.ntmps25
    go_wp2_with fail
    refine (byte_yes _ _ h0 h1).mono ?_; rintro e w' ⟨rfl, rfl⟩
    go_wp2_with fail
    refine (byte_no _ _ H.out).mono ?_; rintro e w' ⟨rfl, rfl⟩
    go_wp2_with fail
    go_ret2
    exact ⟨rfl, rfl⟩
theorem spec_rol_no (a : Int) (c : Bool) (w : World) (h : a < 0 ∨ 255 < a) :
    Calls Try.prog 30 #[.int .i64 a, .bool c] w fun e w' => e = .returned (.tuple #[.int .i64 0, .bool false]) ∧ w = w' := by
  have H := Lib.hid h
  clear h
  go_enter Try.func30, Try.ntmps30
  go_wp2_with fail
  refine (byte_no _ _ H.out).mono ?_; rintro e w' ⟨rfl, rfl⟩
  go_wp2_with fail
  go_ret2
  exact ⟨rfl, rfl⟩
theorem spec_ror_no (a : Int) (c : Bool) (w : World) (h : a < 0 ∨ 255 < a) :
    Calls Try.prog 33 #[.int .i64 a, .bool c] w fun e w' => e = .returned (.tuple #[.int .i64 0, .bool false]) ∧ w = w' := by
  have H := Lib.hid h
  clear h
  go_enter Try.func33, Try.ntmps33
  go_wp2_with fail
  refine (byte_no _ _ H.out).mono ?_; rintro e w' ⟨rfl, rfl⟩
  go_wp2_with fail
  go_ret2
  exact ⟨rfl, rfl⟩
theorem upto_step (k : Nat) (a : Int) (h0 : 0 ≤ a) (h : k < 8) : wrap64 (onesUpto k a + (a / 2 ^ k).tmod 2) = onesUpto (k + 1) a := by
  have hn : 0 ≤ a / 2 ^ k := Int.ediv_nonneg h0 (Int.le_of_lt (Int.pow_pos (by decide)))
  have hb := onesUpto_bd k a
  rw [Int.tmod_eq_emod_of_nonneg hn]
  simp only [onesUpto, wrap64]
  omega
theorem spec_ones (a : Int) (w : World) (h0 : 0 ≤ a) (h1 : a ≤ 255) :
    Calls Try.prog 36 #[.int .i64 a] w fun e w' => e = .returned (.int .i64 (onesN a)) ∧ w = w' := by
  rw [← onesUpto_8 a]
  go_enter Try.func36, Try.ntmps36
  go_wp2_with fail
  go_loop [3, 4] (fun n i => ∃ k : Nat, k ≤ 8 ∧ i = .int .i64 k ∧ n = .int .i64 (onesUpto k a)) (fun _ i => 8 - (intOf i).toNat)
  case atStart => exact ⟨0, by omega, rfl, rfl⟩
  case round =>
    obtain ⟨k, hk, rfl, rfl⟩ := hrel
    have hb := onesUpto_bd k a
    by_cases hlt : k < 8
    · go_wp2_with (first | (go_at_call 43; refine (byte_yes _ _ h0 h1).mono ?_; rintro e w' ⟨rfl, rfl⟩))
      go_round
      case rel => exact ⟨k + 1, by omega, by go_num, by rw [upto_step k a h0 hlt]⟩
      case measure => simp [intOf]; omega
    · obtain rfl : k = 8 := by omega
      go_wp2_with fail
      go_ret
      exact ⟨rfl, rfl⟩
theorem spec_ones_no (a : Int) (w : World) (h : a < 0 ∨ 255 < a) :
    Calls Try.prog 36 #[.int .i64 a] w fun e w' => e = .returned (.int .i64 0) ∧ w = w' := by
  have H := Lib.hid h
  clear h
  go_enter Try.func36, Try.ntmps36
  go_wp2_with fail
  go_loop [3, 4] (fun n i => i = .int .i64 0 ∧ n = .int .i64 0) (fun _ _ => 0)
  case atStart => exact ⟨rfl, rfl⟩
  case round =>
    obtain ⟨rfl, rfl⟩ := hrel
    go_wp2_with (first | (go_at_call 43; refine (byte_no _ _ H.out).mono ?_; rintro e w' ⟨rfl, rfl⟩))
    go_ret
    exact ⟨rfl, rfl⟩
end Go.Proofs.Ytickidnbcdoblaa
