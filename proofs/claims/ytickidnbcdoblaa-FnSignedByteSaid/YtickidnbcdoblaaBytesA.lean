/- Contracts of the program's functions on bytes (chapter 1): what each returns, for bytes and for other numbers; none changes memory that was there. -/
import Derived.Test.YtickidnbcdoblaaRows
import Derived.Test.YtickidnbcdoblaaBytesMath
import Derived.WalkKit
import Derived.ProofKit
import Derived.IntWalk
import Derived.Below
import Derived.WalkSmall
import Derived.Lib.Hide
import Derived.Lib.BitFns
import Derived.Laws.BitsAllLaws
import Derived.Deep.QuietTactic
import Derived.BigQuiet
namespace Go.Proofs.Ytickidnbcdoblaa
open Go.ChangeShapes Go.WideShapes Go.ChangeAt Go.RowKit

theorem ret_int {k : IntKind} {a b : Int} (h : a = b) : Ending.returned (.int k a) = .returned (.int k b) := by rw [h]
theorem i8_of (a : Int) (h0 : 128 ≤ a) (h1 : a ≤ 255) : wrap64 (IntKind.i8.wrap a) = sgn a := by
  have e : IntKind.i8.wrap a = a - 256 := by simp [IntKind.wrap, IntKind.bits, IntKind.signed]; omega
  rw [e]; unfold wrap64 sgn; rw [if_pos h0]; omega

theorem signed_any (a : Int) (w : World) (h0 : 0 ≤ a) (h1 : a ≤ 255) :
    Calls Try.prog 47 #[.int .u8 a] w fun e w' => e = .returned (.int .i64 (sgn a)) ∧ w = w' := by
  by_cases h : a < 128
  · go_enter Try.func47, Try.ntmps47
    go_wp2
    go_ret
    exact ⟨ret_int (by unfold sgn; rw [if_neg (by omega)]), rfl⟩
  · have H : 128 ≤ a := by omega
    clear h
    go_enter Try.func47, Try.ntmps47
    go_wp2
    go_ret
    exact ⟨ret_int (i8_of a H h1), rfl⟩
theorem digit_any (c : Bool) (w : World) :
    Calls Try.prog 53 #[.bool c] w fun e w' => e = .returned (.int .i64 (digi c)) ∧ w = w' := by
  cases c
  all_goals
    go_enter Try.func53, Try.ntmps53
    go_wp2
    go_ret
    exact ⟨rfl, rfl⟩
theorem toOctet_yes (a : Int) (w : World) (h0 : 0 ≤ a) (h1 : a ≤ 255) :
    Calls Try.prog 46 #[.int .i64 a] w fun e w' => e = .returned (.tuple #[.int .u8 a, .bool true]) ∧ w = w' := by
  go_enter Try.func46, Try.ntmps46
  go_wp2
  go_ret2
  exact ⟨rfl, rfl⟩
theorem toOctet_no (a : Int) (w : World) (h : a < 0 ∨ 255 < a) :
    Calls Try.prog 46 #[.int .i64 a] w fun e w' => e = .returned (.tuple #[.int .u8 0, .bool false]) ∧ w = w' := by
  rcases h with h | h
  all_goals
    go_enter Try.func46, Try.ntmps46
    go_wp2
    go_ret2
    exact ⟨rfl, rfl⟩
theorem toOctets_yes (a b : Int) (w : World) (h0 : 0 ≤ a) (h1 : a ≤ 255) (h2 : 0 ≤ b) (h3 : b ≤ 255) :
    Calls Try.prog 41 #[.int .i64 a, .int .i64 b] w fun e w' => e = .returned (.tuple #[.int .u8 a, .int .u8 b, .bool true]) ∧ w = w' := by
  go_enter Try.func41, Try.ntmps41
  go_wp2_with (go_at_call 46; refine (toOctet_yes _ _ (by omega) (by omega)).mono ?_; rintro e w' ⟨rfl, rfl⟩)
  go_ret3
  exact ⟨rfl, rfl⟩
theorem toOctets_no (a b : Int) (w : World) (h : (a < 0 ∨ 255 < a) ∨ (b < 0 ∨ 255 < b)) :
    Calls Try.prog 41 #[.int .i64 a, .int .i64 b] w fun e w' => e = .returned (.tuple #[.int .u8 0, .int .u8 0, .bool false]) ∧ w = w' := by
  by_cases ha : a < 0 ∨ 255 < a
  · clear h
    go_enter Try.func41, Try.ntmps41
    go_wp2_with (go_at_call 46; refine (toOctet_no _ _ (by omega)).mono ?_; rintro e w' ⟨rfl, rfl⟩)
    go_ret3
    exact ⟨rfl, rfl⟩
  · have hb : b < 0 ∨ 255 < b := by omega
    have h0 : 0 ≤ a := by omega
    have h1 : a ≤ 255 := by omega
    clear h ha
    go_enter Try.func41, Try.ntmps41
    go_wp2_with fail
    refine (toOctet_yes _ _ (by omega) (by omega)).mono ?_; rintro e w' ⟨rfl, rfl⟩
    go_wp2_with fail
    refine (toOctet_no _ _ (by omega)).mono ?_; rintro e w' ⟨rfl, rfl⟩
    go_wp2_with fail
    go_ret3
    exact ⟨rfl, rfl⟩
theorem sgn_bd (a : Int) (h0 : 0 ≤ a) (h1 : a ≤ 255) : -128 ≤ sgn a ∧ sgn a ≤ 127 := by unfold sgn; split <;> omega
theorem digi_bd (c : Bool) : 0 ≤ digi c ∧ digi c ≤ 1 := by cases c <;> decide
theorem add_octet (a b : Int) (c : Bool) (w : World) (h0 : 0 ≤ a) (h1 : a ≤ 255) (h2 : 0 ≤ b) (h3 : b ≤ 255) :
    Calls Try.prog 42 #[.int .u8 a, .int .u8 b, .bool c] w fun e w' => e = .returned (.tuple #[.int .u8 (addN a b c), .agg #[.bool (addC a b c), .bool (addV a b c)]]) ∧ Below w.heap.size w w' := by
  obtain ⟨s0, s1⟩ := sgn_bd a h0 h1
  obtain ⟨s2, s3⟩ := sgn_bd b h2 h3
  obtain ⟨s4, s5⟩ := digi_bd c
  go_enter Try.func42, Try.ntmps42
  go_wp2_with (first | (go_at_call 53; refine (digit_any _ _).mono ?_; rintro e w' ⟨rfl, rfl⟩) | (go_at_call 47; refine (signed_any _ _ (by omega) (by omega)).mono ?_; rintro e w' ⟨rfl, rfl⟩))
  · exact bodyPost_ret (v := .tuple #[.int .u8 ((a + b + digi c) % 256), .agg #[.bool (decide (255 < a + b + digi c)), .bool (decide (sgn a + sgn b + digi c < -128) || decide (127 < sgn a + sgn b + digi c))]]) (by simp [results, Try.results42, go_sem]) rfl ⟨rfl, (Below.refl _ _).alloc (Nat.le_refl _) _⟩
  · exact bodyPost_ret (v := .tuple #[.int .u8 ((a + b + digi c) % 256), .agg #[.bool (decide (255 < a + b + digi c)), .bool true]]) (by simp [results, Try.results42, go_sem]) rfl ⟨by rw [show addV a b c = true by unfold addV; simp; omega]; rfl, (Below.refl _ _).alloc (Nat.le_refl _) _⟩
theorem sub_octet (a b : Int) (c : Bool) (w : World) (h0 : 0 ≤ a) (h1 : a ≤ 255) (h2 : 0 ≤ b) (h3 : b ≤ 255) :
    Calls Try.prog 48 #[.int .u8 a, .int .u8 b, .bool c] w fun e w' => e = .returned (.tuple #[.int .u8 (subN a b c), .agg #[.bool (subC a b c), .bool false]]) ∧ Below w.heap.size w w' := by
  obtain ⟨s4, s5⟩ := digi_bd c
  go_enter Try.func48, Try.ntmps48
  go_wp2_with (first | (go_at_call 53; refine (digit_any _ _).mono ?_; rintro e w' ⟨rfl, rfl⟩))
  exact bodyPost_ret (v := .tuple #[.int .u8 ((a - b - digi c) % 256), .agg #[.bool (decide (a - b - digi c < 0)), .bool false]]) (by simp [results, Try.results48, go_sem]) rfl ⟨rfl, (Below.refl _ _).alloc (Nat.le_refl _) _⟩
theorem byte_all {P : Int → Prop} (h : ∀ n : Fin 256, P (n.val : Int)) (a : Int) (h0 : 0 ≤ a) (h1 : a ≤ 255) : P a := by
  obtain ⟨n, rfl⟩ := Int.eq_ofNat_of_zero_le h0
  exact h ⟨n, by omega⟩
theorem rol_bits (a : Int) (c : Bool) (h0 : 0 ≤ a) (h1 : a ≤ 255) : bits .or .u8 (a * 2 % 256) (digi c) = rolN a c := by
  have hd := digi_bd c
  rw [u8_or _ _ (by omega) (by omega) (by omega) (by omega)]
  cases c
  · exact byte_all (P := fun a => (((a * 2 % 256).toNat ||| (digi false).toNat : Nat) : Int) = rolN a false) (by decide +kernel) a h0 h1
  · exact byte_all (P := fun a => (((a * 2 % 256).toNat ||| (digi true).toNat : Nat) : Int) = rolN a true) (by decide +kernel) a h0 h1
theorem ror_bits (a : Int) (c : Bool) (h0 : 0 ≤ a) (h1 : a ≤ 255) : bits .or .u8 (a / 2) (digi c * 128) = rorN a c := by
  have hd := digi_bd c
  rw [u8_or _ _ (by omega) (by omega) (by omega) (by omega)]
  cases c
  · exact byte_all (P := fun a => (((a / 2).toNat ||| (digi false * 128).toNat : Nat) : Int) = rorN a false) (by decide +kernel) a h0 h1
  · exact byte_all (P := fun a => (((a / 2).toNat ||| (digi true * 128).toNat : Nat) : Int) = rorN a true) (by decide +kernel) a h0 h1
theorem odd_bits (a : Int) (h0 : 0 ≤ a) (h1 : a ≤ 255) : (bits .and .u8 a 1 == 1) = rorC a := by
  rw [u8_and _ _ (by omega) (by omega) (by omega) (by omega)]
  exact byte_all (P := fun a => ((((a.toNat &&& (1 : Int).toNat : Nat) : Int)) == 1) = rorC a) (by decide +kernel) a h0 h1
theorem rol_octet (a : Int) (c : Bool) (w : World) (h0 : 0 ≤ a) (h1 : a ≤ 255) :
    Calls Try.prog 49 #[.int .u8 a, .bool c] w fun e w' => e = .returned (.tuple #[.int .u8 (rolN a c), .agg #[.bool (rolC a), .bool false]]) ∧ Below w.heap.size w w' := by
  obtain ⟨s4, s5⟩ := digi_bd c
  go_enter Try.func49, Try.ntmps49
  go_wp2_with (first | (go_at_call 53; refine (digit_any _ _).mono ?_; rintro e w' ⟨rfl, rfl⟩))
  exact bodyPost_ret (v := .tuple #[.int .u8 (bits BinOp.or IntKind.u8 (a * 2 % 256) (digi c)), .agg #[.bool (decide (128 ≤ a)), .bool false]]) (by simp [results, Try.results49, go_sem]) rfl ⟨by rw [rol_bits a c h0 h1]; rfl, (Below.refl _ _).alloc (Nat.le_refl _) _⟩
theorem ror_octet (a : Int) (c : Bool) (w : World) (h0 : 0 ≤ a) (h1 : a ≤ 255) :
    Calls Try.prog 50 #[.int .u8 a, .bool c] w fun e w' => e = .returned (.tuple #[.int .u8 (rorN a c), .agg #[.bool (rorC a), .bool false]]) ∧ Below w.heap.size w w' := by
  obtain ⟨s4, s5⟩ := digi_bd c
  go_enter Try.func50, Try.ntmps50
  go_wp2_with (first | (go_at_call 53; refine (digit_any _ _).mono ?_; rintro e w' ⟨rfl, rfl⟩))
  exact bodyPost_ret (v := .tuple #[.int .u8 (bits BinOp.or IntKind.u8 (a / 2) (digi c * 128)), .agg #[.bool (bits BinOp.and IntKind.u8 a 1 == 1), .bool false]]) (by simp [results, Try.results50, go_sem]) rfl ⟨by rw [ror_bits a c h0 h1, odd_bits a h0 h1], (Below.refl _ _).alloc (Nat.le_refl _) _⟩
theorem addN_bd (a b : Int) (c : Bool) : 0 ≤ addN a b c ∧ addN a b c ≤ 255 := by unfold addN; omega
theorem subN_bd (a b : Int) (c : Bool) : 0 ≤ subN a b c ∧ subN a b c ≤ 255 := by unfold subN; omega
theorem rolN_bd (a : Int) (c : Bool) : 0 ≤ rolN a c ∧ rolN a c ≤ 255 := by unfold rolN; omega
theorem rorN_bd (a : Int) (c : Bool) (h0 : 0 ≤ a) (h1 : a ≤ 255) : 0 ≤ rorN a c ∧ rorN a c ≤ 255 := by have := digi_bd c; unfold rorN; omega
theorem impl_add (a b : Int) (c : Bool) (w : World) (h0 : 0 ≤ a) (h1 : a ≤ 255) (h2 : 0 ≤ b) (h3 : b ≤ 255) :
    Calls Try.prog 18 #[.int .i64 a, .int .i64 b, .bool c] w fun e w' => e = .returned (.tuple #[.int .i64 (addN a b c), .bool (addC a b c), .bool (addV a b c)]) ∧ Below w.heap.size w w' := by
  obtain ⟨n0, n1⟩ := addN_bd a b c
  go_enter Try.func18, Try.ntmps18
  go_wp2_with fail
  refine (toOctets_yes _ _ _ h0 h1 h2 h3).mono ?_; rintro e w' ⟨rfl, rfl⟩
  go_wp2_with fail
  refine (add_octet _ _ _ _ h0 h1 h2 h3).mono ?_; rintro e w1 ⟨rfl, hb⟩
  go_wp2_with fail
  go_quiet (fail)
  go_wp2
  go_ret3
  exact ⟨rfl, below_drewN (hb.alloc hb.size _) _⟩
theorem impl_add_no (a b : Int) (c : Bool) (w : World) (h : (a < 0 ∨ 255 < a) ∨ (b < 0 ∨ 255 < b)) :
    Calls Try.prog 18 #[.int .i64 a, .int .i64 b, .bool c] w fun e w' => e = .returned (.tuple #[.int .i64 0, .bool false, .bool false]) ∧ w = w' := by
  have H := Lib.hid h
  clear h
  go_enter Try.func18, Try.ntmps18
  go_wp2_with fail
  refine (toOctets_no _ _ _ H.out).mono ?_; rintro e w' ⟨rfl, rfl⟩
  go_wp2_with fail
  go_ret3
  exact ⟨rfl, rfl⟩
theorem impl_sub (a b : Int) (c : Bool) (w : World) (h0 : 0 ≤ a) (h1 : a ≤ 255) (h2 : 0 ≤ b) (h3 : b ≤ 255) :
    Calls Try.prog 24 #[.int .i64 a, .int .i64 b, .bool c] w fun e w' => e = .returned (.tuple #[.int .i64 (subN a b c), .bool (subC a b c)]) ∧ Below w.heap.size w w' := by
  obtain ⟨n0, n1⟩ := subN_bd a b c
  go_enter Try.func24, Try.ntmps24
  go_wp2_with fail
  refine (toOctets_yes _ _ _ h0 h1 h2 h3).mono ?_; rintro e w' ⟨rfl, rfl⟩
  go_wp2_with fail
  refine (sub_octet _ _ _ _ h0 h1 h2 h3).mono ?_; rintro e w1 ⟨rfl, hb⟩
  go_wp2_with fail
  go_quiet (fail)
  go_wp2
  go_ret2
  exact ⟨rfl, below_drewN (hb.alloc hb.size _) _⟩
theorem impl_sub_no (a b : Int) (c : Bool) (w : World) (h : (a < 0 ∨ 255 < a) ∨ (b < 0 ∨ 255 < b)) :
    Calls Try.prog 24 #[.int .i64 a, .int .i64 b, .bool c] w fun e w' => e = .returned (.tuple #[.int .i64 0, .bool false]) ∧ w = w' := by
  have H := Lib.hid h
  clear h
  go_enter Try.func24, Try.ntmps24
  go_wp2_with fail
  refine (toOctets_no _ _ _ H.out).mono ?_; rintro e w' ⟨rfl, rfl⟩
  go_wp2_with fail
  go_ret2
  exact ⟨rfl, rfl⟩
theorem impl_sgn (a : Int) (w : World) (h0 : 0 ≤ a) (h1 : a ≤ 255) :
    Calls Try.prog 22 #[.int .i64 a] w fun e w' => e = .returned (.int .i64 (sgn a)) ∧ w = w' := by
  go_enter Try.func22, Try.ntmps22
  go_wp2_with fail
  refine (toOctet_yes _ _ h0 h1).mono ?_; rintro e w' ⟨rfl, rfl⟩
  go_wp2_with fail
  refine (signed_any _ _ h0 h1).mono ?_; rintro e w' ⟨rfl, rfl⟩
  go_wp2_with fail
  go_ret
  exact ⟨rfl, rfl⟩
theorem impl_sgn_no (a : Int) (w : World) (h : a < 0 ∨ 255 < a) :
    Calls Try.prog 22 #[.int .i64 a] w fun e w' => e = .returned (.int .i64 0) ∧ w = w' := by
  have H := Lib.hid h
  clear h
  go_enter Try.func22, Try.ntmps22
  go_wp2_with fail
  refine (toOctet_no _ _ H.out).mono ?_; rintro e w' ⟨rfl, rfl⟩
  go_wp2_with fail
  go_ret
  exact ⟨rfl, rfl⟩
theorem impl_rol (a : Int) (c : Bool) (w : World) (h0 : 0 ≤ a) (h1 : a ≤ 255) :
    Calls Try.prog 29 #[.int .i64 a, .bool c] w fun e w' => e = .returned (.tuple #[.int .i64 (rolN a c), .bool (rolC a)]) ∧ Below w.heap.size w w' := by
  obtain ⟨n0, n1⟩ := rolN_bd a c
  go_enter Try.func29, Try.ntmps29
  go_wp2_with fail
  refine (toOctet_yes _ _ h0 h1).mono ?_; rintro e w' ⟨rfl, rfl⟩
  go_wp2_with fail
  refine (rol_octet _ _ _ h0 h1).mono ?_; rintro e w1 ⟨rfl, hb⟩
  go_wp2_with fail
  go_quiet (fail)
  go_wp2
  go_ret2
  exact ⟨rfl, below_drewN (hb.alloc hb.size _) _⟩
theorem impl_rol_no (a : Int) (c : Bool) (w : World) (h : a < 0 ∨ 255 < a) :
    Calls Try.prog 29 #[.int .i64 a, .bool c] w fun e w' => e = .returned (.tuple #[.int .i64 0, .bool false]) ∧ w = w' := by
  have H := Lib.hid h
  clear h
  go_enter Try.func29, Try.ntmps29
  go_wp2_with fail
  refine (toOctet_no _ _ H.out).mono ?_; rintro e w' ⟨rfl, rfl⟩
  go_wp2_with fail
  go_ret2
  exact ⟨rfl, rfl⟩
theorem impl_ror (a : Int) (c : Bool) (w : World) (h0 : 0 ≤ a) (h1 : a ≤ 255) :
    Calls Try.prog 31 #[.int .i64 a, .bool c] w fun e w' => e = .returned (.tuple #[.int .i64 (rorN a c), .bool (rorC a)]) ∧ Below w.heap.size w w' := by
  obtain ⟨n0, n1⟩ := rorN_bd a c h0 h1
  go_enter Try.func31, Try.ntmps31
  go_wp2_with fail
  refine (toOctet_yes _ _ h0 h1).mono ?_; rintro e w' ⟨rfl, rfl⟩
  go_wp2_with fail
  refine (ror_octet _ _ _ h0 h1).mono ?_; rintro e w1 ⟨rfl, hb⟩
  go_wp2_with fail
  go_quiet (fail)
  go_wp2
  go_ret2
  exact ⟨rfl, below_drewN (hb.alloc hb.size _) _⟩
theorem impl_ror_no (a : Int) (c : Bool) (w : World) (h : a < 0 ∨ 255 < a) :
    Calls Try.prog 31 #[.int .i64 a, .bool c] w fun e w' => e = .returned (.tuple #[.int .i64 0, .bool false]) ∧ w = w' := by
  have H := Lib.hid h
  clear h
  go_enter Try.func31, Try.ntmps31
  go_wp2_with fail
  refine (toOctet_no _ _ H.out).mono ?_; rintro e w' ⟨rfl, rfl⟩
  go_wp2_with fail
  go_ret2
  exact ⟨rfl, rfl⟩
theorem pop_ones (a : Int) (h0 : 0 ≤ a) (h1 : a ≤ 255) : wrap64 (Lib.pop8 a) = onesN a := by
  have e := Lib.pop8_int a h0 h1
  unfold wrap64
  rw [e]
  exact byte_all (P := fun a => (Lib.onesCount a.toNat : Int) = onesN a) (by decide +kernel) a h0 h1
set_option maxRecDepth 100000 in
theorem pop_any (a : Int) (w : World) (h0 : 0 ≤ a) (h1 : a ≤ 255) :
    Calls Try.prog 54 #[.int .u8 a] w fun e w' => e = .returned (.int .i64 (onesN a)) ∧ w = w' := by
  rw [← pop_ones a h0 h1]
  go_enter Try.func54, Try.ntmps54
  go_wp2
  go_ret
  exact ⟨rfl, rfl⟩
theorem ones_octet (a : Int) (w : World) (h0 : 0 ≤ a) (h1 : a ≤ 255) :
    Calls Try.prog 51 #[.int .u8 a] w fun e w' => e = .returned (.int .i64 (onesN a)) ∧ w = w' := by
  go_enter Try.func51, Try.ntmps51
  go_wp2_with fail
  refine (pop_any _ _ h0 h1).mono ?_; rintro e w' ⟨rfl, rfl⟩
  go_wp2_with fail
  go_ret
  exact ⟨rfl, rfl⟩
theorem impl_ones (a : Int) (w : World) (h0 : 0 ≤ a) (h1 : a ≤ 255) :
    Calls Try.prog 34 #[.int .i64 a] w fun e w' => e = .returned (.int .i64 (onesN a)) ∧ w = w' := by
  go_enter Try.func34, Try.ntmps34
  go_wp2_with fail
  refine (toOctet_yes _ _ h0 h1).mono ?_; rintro e w' ⟨rfl, rfl⟩
  go_wp2_with fail
  refine (ones_octet _ _ h0 h1).mono ?_; rintro e w' ⟨rfl, rfl⟩
  go_wp2_with fail
  go_ret
  exact ⟨rfl, rfl⟩
theorem impl_ones_no (a : Int) (w : World) (h : a < 0 ∨ 255 < a) :
    Calls Try.prog 34 #[.int .i64 a] w fun e w' => e = .returned (.int .i64 0) ∧ w = w' := by
  have H := Lib.hid h
  clear h
  go_enter Try.func34, Try.ntmps34
  go_wp2_with fail
  refine (toOctet_no _ _ H.out).mono ?_; rintro e w' ⟨rfl, rfl⟩
  go_wp2_with fail
  go_ret
  exact ⟨rfl, rfl⟩
end Go.Proofs.Ytickidnbcdoblaa
