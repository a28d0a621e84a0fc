/- The program's functions on bytes and the model's, for what computes with two bytes or a byte and a carry: what each returns; none changes memory that was there. -/
import Derived.Test.YtcapfafglikcmaaDoorKB
namespace Go.Proofs.YtcapfafglikcmaaDoor
open Go.ChangeShapes Go.WideShapes Go.ChangeAt Go.RowKit

theorem digit_any (c : Bool) (w : World) :
    Calls Tryd.prog 112 #[.bool c] w fun e w' => e = .returned (.int .i64 (digi c)) ∧ w = w' := by
  cases c
  all_goals
    go_enter Tryd.func112, Tryd.ntmps112
    go_wp2
    go_ret
    exact ⟨rfl, rfl⟩
theorem toOctets_yes (a b : Int) (w : World) (h0 : 0 ≤ a) (h1 : a ≤ 255) (h2 : 0 ≤ b) (h3 : b ≤ 255) :
    Calls Tryd.prog 107 #[.int .i64 a, .int .i64 b] w fun e w' => e = .returned (.tuple #[.int .u8 a, .int .u8 b, .bool true]) ∧ w = w' := by
  go_enter Tryd.func107, Tryd.ntmps107
  go_wp2_with (go_at_call 50; refine (toOctet_yes _ _ (by omega) (by omega)).mono ?_; rintro e w' ⟨rfl, rfl⟩)
  go_ret3
  exact ⟨rfl, rfl⟩
theorem sgn_bd (a : Int) (h0 : 0 ≤ a) (h1 : a ≤ 255) : -128 ≤ sgn a ∧ sgn a ≤ 127 := by unfold sgn; split <;> omega
theorem digi_bd (c : Bool) : 0 ≤ digi c ∧ digi c ≤ 1 := by cases c <;> decide
theorem add_octet (a b : Int) (c : Bool) (w : World) (h0 : 0 ≤ a) (h1 : a ≤ 255) (h2 : 0 ≤ b) (h3 : b ≤ 255) :
    Calls Tryd.prog 108 #[.int .u8 a, .int .u8 b, .bool c] w fun e w' => e = .returned (.tuple #[.int .u8 (addN a b c), .agg #[.bool (addC a b c), .bool (addV a b c)]]) ∧ Below w.heap.size w w' := by
  obtain ⟨s0, s1⟩ := sgn_bd a h0 h1
  obtain ⟨s2, s3⟩ := sgn_bd b h2 h3
  obtain ⟨s4, s5⟩ := digi_bd c
  go_enter Tryd.func108, Tryd.ntmps108
  go_wp2_with (first | (go_at_call 112; refine (digit_any _ _).mono ?_; rintro e w' ⟨rfl, rfl⟩) | (go_at_call 52; refine (signed_any _ _ (by omega) (by omega)).mono ?_; rintro e w' ⟨rfl, rfl⟩))
  · exact bodyPost_ret (v := .tuple #[.int .u8 ((a + b + digi c) % 256), .agg #[.bool (decide (255 < a + b + digi c)), .bool (decide (sgn a + sgn b + digi c < -128) || decide (127 < sgn a + sgn b + digi c))]]) (by simp [results, Tryd.results108, go_sem]) rfl ⟨rfl, (Below.refl _ _).alloc (Nat.le_refl _) _⟩
  · exact bodyPost_ret (v := .tuple #[.int .u8 ((a + b + digi c) % 256), .agg #[.bool (decide (255 < a + b + digi c)), .bool true]]) (by simp [results, Tryd.results108, go_sem]) rfl ⟨by rw [show addV a b c = true by unfold addV; simp; omega]; rfl, (Below.refl _ _).alloc (Nat.le_refl _) _⟩
theorem sub_octet (a b : Int) (c : Bool) (w : World) (h0 : 0 ≤ a) (h1 : a ≤ 255) (h2 : 0 ≤ b) (h3 : b ≤ 255) :
    Calls Tryd.prog 109 #[.int .u8 a, .int .u8 b, .bool c] w fun e w' => e = .returned (.tuple #[.int .u8 (subN a b c), .agg #[.bool (subC a b c), .bool false]]) ∧ Below w.heap.size w w' := by
  obtain ⟨s4, s5⟩ := digi_bd c
  go_enter Tryd.func109, Tryd.ntmps109
  go_wp2_with (first | (go_at_call 112; refine (digit_any _ _).mono ?_; rintro e w' ⟨rfl, rfl⟩))
  exact bodyPost_ret (v := .tuple #[.int .u8 ((a - b - digi c) % 256), .agg #[.bool (decide (a - b - digi c < 0)), .bool false]]) (by simp [results, Tryd.results109, go_sem]) rfl ⟨rfl, (Below.refl _ _).alloc (Nat.le_refl _) _⟩
theorem byte_all {P : Int → Prop} (h : ∀ n : Fin 256, P (n.val : Int)) (a : Int) (h0 : 0 ≤ a) (h1 : a ≤ 255) : P a := by
  obtain ⟨n, rfl⟩ := Int.eq_ofNat_of_zero_le h0
  exact h ⟨n, by omega⟩
theorem rol_bits (a : Int) (c : Bool) (h0 : 0 ≤ a) (h1 : a ≤ 255) : bits .or .u8 (a * 2 % 256) (digi c) = rolN a c := by
  have hd := digi_bd c
  rw [u8_or _ _ (by omega) (by omega) (by omega) (by omega)]
  cases c
  · exact byte_all (P := fun a => (((a * 2 % 256).toNat ||| (digi false).toNat : Nat) : Int) = rolN a false) (by decide +kernel) a h0 h1
  · exact byte_all (P := fun a => (((a * 2 % 256).toNat ||| (digi true).toNat : Nat) : Int) = rolN a true) (by decide +kernel) a h0 h1
theorem ror_bits (a : Int) (c : Bool) (h0 : 0 ≤ a) (h1 : a ≤ 255) : bits .or .u8 (a / 2) (digi c * 128) = rorN a c := by
  have hd := digi_bd c
  rw [u8_or _ _ (by omega) (by omega) (by omega) (by omega)]
  cases c
  · exact byte_all (P := fun a => (((a / 2).toNat ||| (digi false * 128).toNat : Nat) : Int) = rorN a false) (by decide +kernel) a h0 h1
  · exact byte_all (P := fun a => (((a / 2).toNat ||| (digi true * 128).toNat : Nat) : Int) = rorN a true) (by decide +kernel) a h0 h1
theorem odd_bits (a : Int) (h0 : 0 ≤ a) (h1 : a ≤ 255) : (bits .and .u8 a 1 == 1) = rorC a := by
  rw [u8_and _ _ (by omega) (by omega) (by omega) (by omega)]
  exact byte_all (P := fun a => ((((a.toNat &&& (1 : Int).toNat : Nat) : Int)) == 1) = rorC a) (by decide +kernel) a h0 h1
theorem rol_octet (a : Int) (c : Bool) (w : World) (h0 : 0 ≤ a) (h1 : a ≤ 255) :
    Calls Tryd.prog 110 #[.int .u8 a, .bool c] w fun e w' => e = .returned (.tuple #[.int .u8 (rolN a c), .agg #[.bool (rolC a), .bool false]]) ∧ Below w.heap.size w w' := by
  obtain ⟨s4, s5⟩ := digi_bd c
  go_enter Tryd.func110, Tryd.ntmps110
  go_wp2_with (first | (go_at_call 112; refine (digit_any _ _).mono ?_; rintro e w' ⟨rfl, rfl⟩))
  exact bodyPost_ret (v := .tuple #[.int .u8 (bits BinOp.or IntKind.u8 (a * 2 % 256) (digi c)), .agg #[.bool (decide (128 ≤ a)), .bool false]]) (by simp [results, Tryd.results110, go_sem]) rfl ⟨by rw [rol_bits a c h0 h1]; rfl, (Below.refl _ _).alloc (Nat.le_refl _) _⟩
theorem ror_octet (a : Int) (c : Bool) (w : World) (h0 : 0 ≤ a) (h1 : a ≤ 255) :
    Calls Tryd.prog 111 #[.int .u8 a, .bool c] w fun e w' => e = .returned (.tuple #[.int .u8 (rorN a c), .agg #[.bool (rorC a), .bool false]]) ∧ Below w.heap.size w w' := by
  obtain ⟨s4, s5⟩ := digi_bd c
  go_enter Tryd.func111, Tryd.ntmps111
  go_wp2_with (first | (go_at_call 112; refine (digit_any _ _).mono ?_; rintro e w' ⟨rfl, rfl⟩))
  exact bodyPost_ret (v := .tuple #[.int .u8 (bits BinOp.or IntKind.u8 (a / 2) (digi c * 128)), .agg #[.bool (bits BinOp.and IntKind.u8 a 1 == 1), .bool false]]) (by simp [results, Tryd.results111, go_sem]) rfl ⟨by rw [ror_bits a c h0 h1, odd_bits a h0 h1], (Below.refl _ _).alloc (Nat.le_refl _) _⟩
theorem addN_bd (a b : Int) (c : Bool) : 0 ≤ addN a b c ∧ addN a b c ≤ 255 := by unfold addN; omega
theorem subN_bd (a b : Int) (c : Bool) : 0 ≤ subN a b c ∧ subN a b c ≤ 255 := by unfold subN; omega
theorem rolN_bd (a : Int) (c : Bool) : 0 ≤ rolN a c ∧ rolN a c ≤ 255 := by unfold rolN; omega
theorem rorN_bd (a : Int) (c : Bool) (h0 : 0 ≤ a) (h1 : a ≤ 255) : 0 ≤ rorN a c ∧ rorN a c ≤ 255 := by have := digi_bd c; unfold rorN; omega
theorem impl_add (a b : Int) (c : Bool) (w : World) (h0 : 0 ≤ a) (h1 : a ≤ 255) (h2 : 0 ≤ b) (h3 : b ≤ 255) :
    Calls Tryd.prog 103 #[.int .i64 a, .int .i64 b, .bool c] w fun e w' => e = .returned (.tuple #[.int .i64 (addN a b c), .bool (addC a b c), .bool (addV a b c)]) ∧ Below w.heap.size w w' := by
  obtain ⟨n0, n1⟩ := addN_bd a b c
  go_enter Tryd.func103, Tryd.ntmps103
  go_wp2_with fail
  refine (toOctets_yes _ _ _ h0 h1 h2 h3).mono ?_; rintro e w' ⟨rfl, rfl⟩
  go_wp2_with fail
  refine (add_octet _ _ _ _ h0 h1 h2 h3).mono ?_; rintro e w1 ⟨rfl, hb⟩
  go_wp2_with fail
  go_quiet (fail)
  go_wp2
  go_ret3
  exact ⟨rfl, below_drewN (hb.alloc hb.size _) _⟩
theorem impl_sub (a b : Int) (c : Bool) (w : World) (h0 : 0 ≤ a) (h1 : a ≤ 255) (h2 : 0 ≤ b) (h3 : b ≤ 255) :
    Calls Tryd.prog 104 #[.int .i64 a, .int .i64 b, .bool c] w fun e w' => e = .returned (.tuple #[.int .i64 (subN a b c), .bool (subC a b c)]) ∧ Below w.heap.size w w' := by
  obtain ⟨n0, n1⟩ := subN_bd a b c
  go_enter Tryd.func104, Tryd.ntmps104
  go_wp2_with fail
  refine (toOctets_yes _ _ _ h0 h1 h2 h3).mono ?_; rintro e w' ⟨rfl, rfl⟩
  go_wp2_with fail
  refine (sub_octet _ _ _ _ h0 h1 h2 h3).mono ?_; rintro e w1 ⟨rfl, hb⟩
  go_wp2_with fail
  go_quiet (fail)
  go_wp2
  go_ret2
  exact ⟨rfl, below_drewN (hb.alloc hb.size _) _⟩
theorem impl_rol (a : Int) (c : Bool) (w : World) (h0 : 0 ≤ a) (h1 : a ≤ 255) :
    Calls Tryd.prog 105 #[.int .i64 a, .bool c] w fun e w' => e = .returned (.tuple #[.int .i64 (rolN a c), .bool (rolC a)]) ∧ Below w.heap.size w w' := by
  obtain ⟨n0, n1⟩ := rolN_bd a c
  go_enter Tryd.func105, Tryd.ntmps105
  go_wp2_with fail
  refine (toOctet_yes _ _ h0 h1).mono ?_; rintro e w' ⟨rfl, rfl⟩
  go_wp2_with fail
  refine (rol_octet _ _ _ h0 h1).mono ?_; rintro e w1 ⟨rfl, hb⟩
  go_wp2_with fail
  go_quiet (fail)
  go_wp2
  go_ret2
  exact ⟨rfl, below_drewN (hb.alloc hb.size _) _⟩
theorem impl_ror (a : Int) (c : Bool) (w : World) (h0 : 0 ≤ a) (h1 : a ≤ 255) :
    Calls Tryd.prog 106 #[.int .i64 a, .bool c] w fun e w' => e = .returned (.tuple #[.int .i64 (rorN a c), .bool (rorC a)]) ∧ Below w.heap.size w w' := by
  obtain ⟨n0, n1⟩ := rorN_bd a c h0 h1
  go_enter Tryd.func106, Tryd.ntmps106
  go_wp2_with fail
  refine (toOctet_yes _ _ h0 h1).mono ?_; rintro e w' ⟨rfl, rfl⟩
  go_wp2_with fail
  refine (ror_octet _ _ _ h0 h1).mono ?_; rintro e w1 ⟨rfl, hb⟩
  go_wp2_with fail
  go_quiet (fail)
  go_wp2
  go_ret2
  exact ⟨rfl, below_drewN (hb.alloc hb.size _) _⟩
theorem bit_any (c : Bool) (w : World) :
    Calls Tryd.prog 100 #[.bool c] w fun e w' => e = .returned (.int .i64 (digi c)) ∧ w = w' := by
  cases c
  all_goals
    go_enter Tryd.func100, Tryd.ntmps100
    go_wp2
    go_ret
    exact ⟨rfl, rfl⟩
theorem in_any (n lo hi : Int) (w : World) :
    Calls Tryd.prog 30 #[.int .i64 n, .int .i64 lo, .int .i64 hi] w fun e w' => e = .returned (.bool (inB n lo hi)) ∧ w = w' := by
  by_cases h : lo ≤ n
  · by_cases k : n ≤ hi
    · rw [inB_yes h k]
      go_enter Tryd.func30, Tryd.ntmps30
      go_wp2
      go_ret
      exact ⟨rfl, rfl⟩
    · rw [inB_no (.inr (by omega))]
      have hk : decide (n ≤ hi) = false := by simp; omega
      go_enter Tryd.func30, Tryd.ntmps30
      go_wp2
      go_ret
      exact ⟨rfl, rfl⟩
  · rw [inB_no (.inl (by omega))]
    have hk : decide (lo ≤ n) = false := by simp; omega
    go_enter Tryd.func30, Tryd.ntmps30
    go_wp2
    go_ret
    exact ⟨rfl, rfl⟩
theorem byte_yes (a : Int) (w : World) (h0 : 0 ≤ a) (h1 : a ≤ 255) :
    Calls Tryd.prog 32 #[.int .i64 a] w fun e w' => e = .returned (.bool true) ∧ w = w' := by
  have H := Lib.hid (inB_yes h0 h1)
  rw [← H.out]
  go_enter Tryd.func32, Tryd.ntmps32
  go_wp2_with fail
  refine (in_any _ _ _ _).mono ?_; rintro e w' ⟨rfl, rfl⟩
  go_wp2_with fail
  go_ret
  exact ⟨rfl, rfl⟩
theorem byte_no (a : Int) (w : World) (h : a < 0 ∨ 255 < a) :
    Calls Tryd.prog 32 #[.int .i64 a] w fun e w' => e = .returned (.bool false) ∧ w = w' := by
  have H := Lib.hid (inB_no h)
  rw [← H.out]
  clear h
  go_enter Tryd.func32, Tryd.ntmps32
  go_wp2_with fail
  refine (in_any _ _ _ _).mono ?_; rintro e w' ⟨rfl, rfl⟩
  go_wp2_with fail
  go_ret
  exact ⟨rfl, rfl⟩
theorem spec_sgn (a : Int) (w : World) (h0 : 0 ≤ a) (h1 : a ≤ 255) :
    Calls Tryd.prog 101 #[.int .i64 a] w fun e w' => e = .returned (.int .i64 (sgn a)) ∧ w = w' := by
  by_cases h : a < 128
  · go_enter Tryd.func101, Tryd.ntmps101
    go_wp2_with fail
    refine (byte_yes _ _ h0 h1).mono ?_; rintro e w' ⟨rfl, rfl⟩
    go_wp2_with fail
    go_ret
    exact ⟨ret_int (by unfold sgn; rw [if_neg (by omega)]), rfl⟩
  · have H : 128 ≤ a := by omega
    clear h
    go_enter Tryd.func101, Tryd.ntmps101
    go_wp2_with fail
    refine (byte_yes _ _ h0 h1).mono ?_; rintro e w' ⟨rfl, rfl⟩
    go_wp2_with fail
    go_ret
    exact ⟨ret_int (by unfold sgn; rw [if_pos (by omega)]), rfl⟩
theorem spec_add (a b : Int) (c : Bool) (w : World) (h0 : 0 ≤ a) (h1 : a ≤ 255) (h2 : 0 ≤ b) (h3 : b ≤ 255) :
    Calls Tryd.prog 66 #[.int .i64 a, .int .i64 b, .bool c] w fun e w' => e = .returned (.tuple #[.int .i64 (addN a b c), .bool (addC a b c), .bool (addV a b c)]) ∧ Below w.heap.size w w' := by
  obtain ⟨s0, s1⟩ := sgn_bd a h0 h1
  obtain ⟨s2, s3⟩ := sgn_bd b h2 h3
  obtain ⟨s4, s5⟩ := digi_bd c
  go_enter Tryd.func66, Tryd.ntmps66
  go_wp2_with (first | (go_at_call 32; refine (byte_yes _ _ (by omega) (by omega)).mono ?_; rintro e w' ⟨rfl, rfl⟩) | (go_at_call 100; refine (bit_any _ _).mono ?_; rintro e w' ⟨rfl, rfl⟩) | (go_at_call 30; refine (in_any _ _ _ _).mono ?_; rintro e w' ⟨rfl, rfl⟩) | (go_at_call 101; refine (spec_sgn _ _ (by omega) (by omega)).mono ?_; rintro e w' ⟨rfl, rfl⟩))
  go_ret3
  exact ⟨by rw [show addV a b c = !inB (sgn a + sgn b + digi c) (-128) 127 from (not_inB _ _ _).symm]; rfl, Below.refl _ _⟩
theorem spec_sub (a b : Int) (c : Bool) (w : World) (h0 : 0 ≤ a) (h1 : a ≤ 255) (h2 : 0 ≤ b) (h3 : b ≤ 255) :
    Calls Tryd.prog 67 #[.int .i64 a, .int .i64 b, .bool c] w fun e w' => e = .returned (.tuple #[.int .i64 (subN a b c), .bool (subC a b c)]) ∧ Below w.heap.size w w' := by
  obtain ⟨s4, s5⟩ := digi_bd c
  go_enter Tryd.func67, Tryd.ntmps67
  go_wp2_with (first | (go_at_call 32; refine (byte_yes _ _ (by omega) (by omega)).mono ?_; rintro e w' ⟨rfl, rfl⟩) | (go_at_call 100; refine (bit_any _ _).mono ?_; rintro e w' ⟨rfl, rfl⟩))
  go_ret2
  exact ⟨by rw [show subN a b c = (a - b - digi c + 256) % 256 by unfold subN; omega]; rfl, Below.refl _ _⟩
theorem spec_rol (a : Int) (c : Bool) (w : World) (h0 : 0 ≤ a) (h1 : a ≤ 255) :
    Calls Tryd.prog 68 #[.int .i64 a, .bool c] w fun e w' => e = .returned (.tuple #[.int .i64 (rolN a c), .bool (rolC a)]) ∧ Below w.heap.size w w' := by
  obtain ⟨s4, s5⟩ := digi_bd c
  go_enter Tryd.func68, Tryd.ntmps68
  go_wp2_with (first | (go_at_call 32; refine (byte_yes _ _ (by omega) (by omega)).mono ?_; rintro e w' ⟨rfl, rfl⟩) | (go_at_call 100; refine (bit_any _ _).mono ?_; rintro e w' ⟨rfl, rfl⟩))
  go_ret2
  exact ⟨rfl, Below.refl _ _⟩
theorem spec_ror (a : Int) (c : Bool) (w : World) (h0 : 0 ≤ a) (h1 : a ≤ 255) :
    Calls Tryd.prog 69 #[.int .i64 a, .bool c] w fun e w' => e = .returned (.tuple #[.int .i64 (rorN a c), .bool (rorC a)]) ∧ Below w.heap.size w w' := by
  obtain ⟨s4, s5⟩ := digi_bd c
  go_enter Tryd.func69, Tryd.ntmps69
  go_wp2_with (first | (go_at_call 32; refine (byte_yes _ _ (by omega) (by omega)).mono ?_; rintro e w' ⟨rfl, rfl⟩) | (go_at_call 100; refine (bit_any _ _).mono ?_; rintro e w' ⟨rfl, rfl⟩))
  go_ret2
  exact ⟨by rw [show rorC a = (a % 2 == 1) by unfold rorC; rw [Bool.eq_iff_iff]; simp]; rfl, Below.refl _ _⟩
end Go.Proofs.YtcapfafglikcmaaDoor
