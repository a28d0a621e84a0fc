/- Newly pressed buttons: the program's and the model's functions, digits of bytes, and the laws, walked. -/
import Derived.Test.YtjfhdkidefkogaaIn
import Derived.Test.YtjfhdkidefkogaaDrawC
import Derived.Laws.Bits64
namespace Go.Proofs.Ytjfhdkidefkogaa
open Go.ChangeShapes Go.WideShapes Go.ChangeAt Go.RowKit

/-- The digits of b that are not those of a. -/
def newN (a b : Int) : Int := ((b.toNat &&& (255 - a.toNat) : Nat) : Int)
def newT (a b : Int) : Int := if (byteB a && byteB b) = true then newN a b else 0
theorem newN_nat (a b : Nat) : newN (a : Int) (b : Int) = ((b &&& (255 - a) : Nat) : Int) := by simp [newN]
theorem newN_bd (a b : Int) (h1 : b ≤ 255) : 0 ≤ newN a b ∧ newN a b ≤ 255 := by
  have k : b.toNat &&& (255 - a.toNat) ≤ b.toNat := Nat.and_le_left
  unfold newN
  omega
theorem newT_yes {a b : Int} (h : byteB a = true) (k : byteB b = true) : newT a b = newN a b := if_pos (by rw [h, k]; rfl)
theorem newT_no {a b : Int} (h : byteB a = false ∨ byteB b = false) : newT a b = 0 := if_neg (by rcases h with h | h <;> rw [h] <;> simp)
theorem new_bit (a b : Nat) (ha : a < 256) (hb : b < 256) (i : Nat) : (b &&& (255 - a)).testBit i = (b.testBit i && !a.testBit i) := by
  rw [Nat.testBit_and]
  have e : 255 - a = 2 ^ 8 - (a + 1) := by omega
  rw [e, Nat.testBit_two_pow_sub_succ (show a < 2 ^ 8 by omega)]
  by_cases h : i < 8
  · simp [h]
  · have hz : b.testBit i = false := Nat.testBit_lt_two_pow (Nat.lt_of_lt_of_le (show b < 2 ^ 8 by omega) (Nat.pow_le_pow_right (by omega) (by omega)))
    simp [hz]
theorem far_bit (a b : Nat) (ha : a < 256) (hb : b < 256) : b &&& (18446744073709551615 - a) = b &&& (255 - a) := by
  refine Nat.eq_of_testBit_eq fun i => ?_
  rw [new_bit a b ha hb, Nat.testBit_and]
  have e : 18446744073709551615 - a = 2 ^ 64 - (a + 1) := by omega
  rw [e, Nat.testBit_two_pow_sub_succ (show a < 2 ^ 64 by omega)]
  by_cases h : i < 64
  · simp [h]
  · have hz : b.testBit i = false := Nat.testBit_lt_two_pow (Nat.lt_of_lt_of_le (show b < 2 ^ 8 by omega) (Nat.pow_le_pow_right (by omega) (by omega)))
    simp [hz]
theorem ofInt_64 (a : Nat) (ha : a < 9223372036854775808) : (BitVec.ofInt 64 (a : Int)).toNat = a := by
  rw [BitVec.ofInt_natCast, BitVec.toNat_ofNat]; exact Nat.mod_eq_of_lt (by omega)
theorem and_i64_of (a b : Nat) (ha : a < 9223372036854775808) (hb : b < 9223372036854775808) : bits .and .i64 (a : Int) (b : Int) = ((a &&& b : Nat) : Int) := by
  have hx : a &&& b < 2 ^ 63 := Nat.and_lt_two_pow _ (by omega)
  show IntKind.i64.wrap ((BitVec.ofInt 64 (a : Int) &&& BitVec.ofInt 64 (b : Int)).toNat : Int) = _
  rw [BitVec.toNat_and, ofInt_64 a ha, ofInt_64 b hb, IntKind.wrap_i64]
  omega
theorem or_i64_of (a b : Nat) (ha : a < 9223372036854775808) (hb : b < 9223372036854775808) : bits .or .i64 (a : Int) (b : Int) = ((a ||| b : Nat) : Int) := by
  have hx : a ||| b < 2 ^ 63 := Nat.or_lt_two_pow (by omega) (by omega)
  show IntKind.i64.wrap ((BitVec.ofInt 64 (a : Int) ||| BitVec.ofInt 64 (b : Int)).toNat : Int) = _
  rw [BitVec.toNat_or, ofInt_64 a ha, ofInt_64 b hb, IntKind.wrap_i64]
  omega
theorem andNot_i64_of (a b : Nat) (ha : a < 9223372036854775808) (hb : b < 9223372036854775808) : bits .andNot .i64 (a : Int) (b : Int) = ((a &&& (18446744073709551615 - b) : Nat) : Int) := by
  have hx : a &&& (18446744073709551615 - b) ≤ a := Nat.and_le_left
  show IntKind.i64.wrap ((BitVec.ofInt 64 (a : Int) &&& ~~~BitVec.ofInt 64 (b : Int)).toNat : Int) = _
  rw [BitVec.toNat_and, BitVec.toNat_not, ofInt_64 a ha, ofInt_64 b hb, IntKind.wrap_i64]
  have e : 2 ^ 64 - 1 - b = 18446744073709551615 - b := by omega
  rw [e]
  omega
theorem not_u8 (a b : Int) (h0 : 0 ≤ a) (h1 : a ≤ 255) (h2 : 0 ≤ b) (h3 : b ≤ 255) : bits .andNot .u8 b a = newN a b := u8_andNot b a h2 (by omega) h0 (by omega)
theorem not_i64 (a b : Int) (h0 : 0 ≤ a) (h1 : a ≤ 255) (h2 : 0 ≤ b) (h3 : b ≤ 255) : bits .andNot .i64 b a = newN a b := by
  obtain ⟨x, rfl⟩ := Int.eq_ofNat_of_zero_le h0
  obtain ⟨y, rfl⟩ := Int.eq_ofNat_of_zero_le h2
  rw [newN_nat, andNot_i64_of y x (by omega) (by omega), far_bit x y (by omega) (by omega)]
/-- What the law on new buttons asks of them. -/
theorem new_facts (a b : Int) (h0 : 0 ≤ a) (h1 : a ≤ 255) (h2 : 0 ≤ b) (h3 : b ≤ 255) :
    bits .and .i64 (newN a b) b = newN a b ∧ bits .and .i64 (newN a b) a = 0 ∧ bits .and .i64 (bits .or .i64 (newN a b) a) b = b ∧ newN 0 b = b ∧ newN a a = 0 ∧ bits .or .i64 (newN a b) (bits .and .i64 a b) = b := by
  obtain ⟨x, rfl⟩ := Int.eq_ofNat_of_zero_le h0
  obtain ⟨y, rfl⟩ := Int.eq_ofNat_of_zero_le h2
  have hx : x < 256 := by omega
  have hy : y < 256 := by omega
  have e0 := new_bit x y hx hy
  have e1 := new_bit 0 y (by omega) hy
  have e2 := new_bit x x hx hx
  have en := newN_nat x y
  have l1 : y &&& (255 - x) ≤ y := Nat.and_le_left
  have l2 : (y &&& (255 - x)) ||| x < 2 ^ 8 := Nat.or_lt_two_pow (by omega) (by omega)
  have l3 : x &&& y ≤ x := Nat.and_le_left
  rw [en, newN_nat x x, show newN 0 (y : Int) = ((y &&& (255 - 0) : Nat) : Int) from newN_nat 0 y, and_i64_of _ y (by omega) (by omega), and_i64_of _ x (by omega) (by omega), or_i64_of _ x (by omega) (by omega), and_i64_of _ y (by omega) (by omega), and_i64_of x y (by omega) (by omega), or_i64_of _ (x &&& y) (by omega) (by omega)]
  refine ⟨?_, ?_, ?_, ?_, ?_, ?_⟩
  · congr 1
    refine Nat.eq_of_testBit_eq fun i => ?_
    rw [Nat.testBit_and, e0]
    cases y.testBit i <;> cases x.testBit i <;> rfl
  · rw [show (y &&& (255 - x)) &&& x = 0 from Nat.eq_of_testBit_eq fun i => by
      rw [Nat.testBit_and, e0, Nat.zero_testBit]
      cases y.testBit i <;> cases x.testBit i <;> rfl]
    rfl
  · congr 1
    refine Nat.eq_of_testBit_eq fun i => ?_
    rw [Nat.testBit_and, Nat.testBit_or, e0]
    cases y.testBit i <;> cases x.testBit i <;> rfl
  · congr 1
    refine Nat.eq_of_testBit_eq fun i => ?_
    rw [e1, Nat.zero_testBit]
    cases y.testBit i <;> rfl
  · rw [show x &&& (255 - x) = 0 from Nat.eq_of_testBit_eq fun i => by
      rw [e2, Nat.zero_testBit]
      cases x.testBit i <;> rfl]
    rfl
  · congr 1
    refine Nat.eq_of_testBit_eq fun i => ?_
    rw [Nat.testBit_or, e0, Nat.testBit_and]
    cases y.testBit i <;> cases x.testBit i <;> rfl
def dig7 (x k : Nat) : Nat := x / 2 ^ k % 2
theorem dig7_new (x y k : Nat) (hx : x < 256) (hy : y < 256) : dig7 (y &&& (255 - x)) k + dig7 (x &&& y) k = dig7 y k := by
  have h1 := new_bit x y hx hy k
  have h2 := Nat.testBit_and x y k
  simp only [Nat.testBit_eq_decide_div_mod_eq] at h1 h2
  have a1 : dig7 y k < 2 := Nat.mod_lt _ (by decide)
  have a2 : dig7 x k < 2 := Nat.mod_lt _ (by decide)
  have a3 : dig7 (y &&& (255 - x)) k < 2 := Nat.mod_lt _ (by decide)
  have a4 : dig7 (x &&& y) k < 2 := Nat.mod_lt _ (by decide)
  unfold dig7 at *
  by_cases p : x / 2 ^ k % 2 = 1 <;> by_cases q : y / 2 ^ k % 2 = 1 <;> simp [p, q] at h1 h2 <;> omega
theorem ones_dig7 (x : Nat) : onesN (x : Int) = ((dig7 x 0 + dig7 x 1 + dig7 x 2 + dig7 x 3 + dig7 x 4 + dig7 x 5 + dig7 x 6 + dig7 x 7 : Nat) : Int) := by
  simp [onesN, dig7]
theorem ones_le (a : Int) : 0 ≤ onesN a ∧ onesN a ≤ 8 := by unfold onesN; omega
/-- Buttons that are pressed now are new ones and kept ones. -/
theorem new_ones (a b : Int) (h0 : 0 ≤ a) (h1 : a ≤ 255) (h2 : 0 ≤ b) (h3 : b ≤ 255) :
    0 ≤ bits .and .i64 a b ∧ bits .and .i64 a b ≤ 255 ∧ onesN (newN a b) + onesN (bits .and .i64 a b) = onesN b := by
  obtain ⟨x, rfl⟩ := Int.eq_ofNat_of_zero_le h0
  obtain ⟨y, rfl⟩ := Int.eq_ofNat_of_zero_le h2
  have hx : x < 256 := by omega
  have hy : y < 256 := by omega
  have l3 : x &&& y ≤ x := Nat.and_le_left
  have e := fun k => dig7_new x y k hx hy
  have e0 := e 0; have e1 := e 1; have e2 := e 2; have e3 := e 3; have e4 := e 4; have e5 := e 5; have e6 := e 6; have e7 := e 7
  rw [newN_nat, and_i64_of x y (by omega) (by omega), ones_dig7, ones_dig7, ones_dig7]
  exact ⟨by omega, by omega, by omega⟩
theorem tos_yes (a b : Int) (w : World) (h0 : 0 ≤ a) (h1 : a ≤ 255) (h2 : 0 ≤ b) (h3 : b ≤ 255) :
    Calls Try.prog 45 #[.int .i64 a, .int .i64 b] w fun e w' => e = .returned (.tuple #[.int .u8 a, .int .u8 b, .bool true]) ∧ w = w' := by
  go_enter Try.func45, Try.ntmps45
  go_wp2_with (go_at_call 41; refine (toOctet_yes _ _ (by omega) (by omega)).mono ?_; rintro e w' ⟨rfl, rfl⟩)
  go_ret3
  exact ⟨rfl, rfl⟩
theorem tos_no (a b : Int) (w : World) (h : byteB a = false ∨ byteB b = false) :
    Calls Try.prog 45 #[.int .i64 a, .int .i64 b] w fun e w' => e = .returned (.tuple #[.int .u8 0, .int .u8 0, .bool false]) ∧ w = w' := by
  by_cases ha : byteB a = true
  · obtain ⟨h0, h1⟩ := byteB_yes ha
    have hb : b < 0 ∨ 255 < b := byteB_no (by rcases h with h | h; · rw [ha] at h; cases h
                                              · exact h)
    clear h ha
    go_enter Try.func45, Try.ntmps45
    go_wp2_with fail
    refine (toOctet_yes _ _ (by omega) (by omega)).mono ?_; rintro e w' ⟨rfl, rfl⟩
    go_wp2_with fail
    refine (toOctet_no _ _ (by omega)).mono ?_; rintro e w' ⟨rfl, rfl⟩
    go_wp2_with fail
    go_ret3
    exact ⟨rfl, rfl⟩
  · have hb := byteB_no (show byteB a = false by simpa using ha)
    clear h ha
    go_enter Try.func45, Try.ntmps45
    go_wp2_with (go_at_call 41; refine (toOctet_no _ _ (by omega)).mono ?_; rintro e w' ⟨rfl, rfl⟩)
    go_ret3
    exact ⟨rfl, rfl⟩
theorem impl_newly (a b : Int) (w : World) : Calls Try.prog 29 #[.int .i64 a, .int .i64 b] w fun e w' => e = .returned (.int .i64 (newT a b)) ∧ w = w' := by
  by_cases h : byteB a = true ∧ byteB b = true
  · obtain ⟨ha, hb⟩ := h
    obtain ⟨h0, h1⟩ := byteB_yes ha
    obtain ⟨h2, h3⟩ := byteB_yes hb
    rw [newT_yes ha hb, ← not_u8 a b h0 h1 h2 h3]
    have u : 0 ≤ bits .andNot .u8 b a ∧ bits .andNot .u8 b a ≤ 255 := by rw [not_u8 a b h0 h1 h2 h3]; exact newN_bd a b h3
    obtain ⟨u0, u1⟩ := u
    clear ha hb
    go_enter Try.func29, Try.ntmps29
    go_wp2_with fail
    refine (tos_yes _ _ _ h0 h1 h2 h3).mono ?_; rintro e w' ⟨rfl, rfl⟩
    go_wp2_with fail
    go_ret
    exact ⟨rfl, rfl⟩
  · have hn : byteB a = false ∨ byteB b = false := by
      cases ha : byteB a
      · exact .inl rfl
      · cases hb : byteB b
        · exact .inr rfl
        · exact absurd ⟨ha, hb⟩ h
    have HN := Lib.hid hn
    rw [newT_no hn]
    clear h hn
    go_enter Try.func29, Try.ntmps29
    go_wp2_with fail
    refine (tos_no _ _ _ HN.out).mono ?_; rintro e w' ⟨rfl, rfl⟩
    go_wp2_with fail
    go_ret
    exact ⟨rfl, rfl⟩
theorem spec_newly (a b : Int) (w : World) : Calls Try.prog 30 #[.int .i64 a, .int .i64 b] w fun e w' => e = .returned (.int .i64 (newT a b)) ∧ w = w' := by
  by_cases ha : byteB a = true
  · have KA := Lib.hid ha
    by_cases hb : byteB b = true
    · have KB := Lib.hid hb
      obtain ⟨h0, h1⟩ := byteB_yes ha
      obtain ⟨h2, h3⟩ := byteB_yes hb
      rw [newT_yes ha hb, ← not_i64 a b h0 h1 h2 h3]
      clear ha hb
      go_enter Try.func30, Try.ntmps30
      go_wp2_with fail
      refine (l1Byte_any _ _).mono ?_; rintro e w' ⟨rfl, rfl⟩
      rw [KA.out]
      go_wp2_with fail
      refine (l1Byte_any _ _).mono ?_; rintro e w' ⟨rfl, rfl⟩
      rw [KB.out]
      go_wp2_with fail
      go_ret
      exact ⟨rfl, rfl⟩
    · have KB := Lib.hid (show byteB b = false by simpa using hb)
      rw [newT_no (.inr KB.out)]
      clear ha hb
      go_enter Try.func30, Try.ntmps30
      go_wp2_with fail
      refine (l1Byte_any _ _).mono ?_; rintro e w' ⟨rfl, rfl⟩
      rw [KA.out]
      go_wp2_with fail
      refine (l1Byte_any _ _).mono ?_; rintro e w' ⟨rfl, rfl⟩
      rw [KB.out]
      go_wp2_with fail
      go_ret
      exact ⟨rfl, rfl⟩
  · have KA := Lib.hid (show byteB a = false by simpa using ha)
    rw [newT_no (.inl KA.out)]
    clear ha
    go_enter Try.func30, Try.ntmps30
    go_wp2_with fail
    refine (l1Byte_any _ _).mono ?_; rintro e w' ⟨rfl, rfl⟩
    rw [KA.out]
    go_wp2_with fail
    go_ret
    exact ⟨rfl, rfl⟩
theorem byte_all8 {P : Int → Prop} (h : ∀ n : Fin 256, P (n.val : Int)) (a : Int) (h0 : 0 ≤ a) (h1 : a ≤ 255) : P a := by
  have k := h ⟨a.toNat, by omega⟩
  simpa [Int.toNat_of_nonneg h0] using k
theorem pop_one (a : Int) (h0 : 0 ≤ a) (h1 : a ≤ 255) : wrap64 (Lib.pop8 a) = onesN a := by
  have e := Lib.pop8_int a h0 h1
  unfold wrap64
  rw [e]
  exact byte_all8 (P := fun a => (Lib.onesCount a.toNat : Int) = onesN a) (by decide +kernel) a h0 h1
set_option maxRecDepth 100000 in
theorem pop_at (a : Int) (w : World) (h0 : 0 ≤ a) (h1 : a ≤ 255) :
    Calls Try.prog 51 #[.int .u8 a] w fun e w' => e = .returned (.int .i64 (onesN a)) ∧ w = w' := by
  rw [← pop_one a h0 h1]
  go_enter Try.func51, Try.ntmps51
  go_wp2
  go_ret
  exact ⟨rfl, rfl⟩
theorem ones_at (a : Int) (w : World) (h0 : 0 ≤ a) (h1 : a ≤ 255) :
    Calls Try.prog 46 #[.int .u8 a] w fun e w' => e = .returned (.int .i64 (onesN a)) ∧ w = w' := by
  go_enter Try.func46, Try.ntmps46
  go_wp2_with fail
  refine (pop_at _ _ h0 h1).mono ?_; rintro e w' ⟨rfl, rfl⟩
  go_wp2_with fail
  go_ret
  exact ⟨rfl, rfl⟩
theorem ones_of (a : Int) (w : World) (h0 : 0 ≤ a) (h1 : a ≤ 255) :
    Calls Try.prog 31 #[.int .i64 a] w fun e w' => e = .returned (.int .i64 (onesN a)) ∧ w = w' := by
  go_enter Try.func31, Try.ntmps31
  go_wp2_with fail
  refine (toOctet_yes _ _ h0 h1).mono ?_; rintro e w' ⟨rfl, rfl⟩
  go_wp2_with fail
  refine (ones_at _ _ h0 h1).mono ?_; rintro e w' ⟨rfl, rfl⟩
  go_wp2_with fail
  go_ret
  exact ⟨rfl, rfl⟩
theorem walk_FnExactNewlyPressed (a0 : Int) (a1 : Int) (w : World) (_w0 : (Lit.int .i64 a0).wf = true) (_w1 : (Lit.int .i64 a1).wf = true) :
    Calls Try.prog 13 #[.int .i64 a0, .int .i64 a1] w fun e w' => e = .returned (.bool true) ∧ Below w.heap.size w w' := by
  go_enter Try.func13, Try.ntmps13
  go_wp2_with fail
  refine (spec_newly _ _ _).mono ?_; rintro e w' ⟨rfl, rfl⟩
  go_wp2_with fail
  refine (impl_newly _ _ _).mono ?_; rintro e w' ⟨rfl, rfl⟩
  go_wp2_with fail
  go_ret
  exact ⟨rfl, Below.refl _ _⟩
theorem walk_FnNewlyPressed (a0 : Option Addr) (len0 cap0 : Nat) (z0 : List Int) (w : World) (w0 : IsRow .u8 w a0 len0 cap0 z0) :
    Calls Try.prog 7 #[.slice a0 len0 cap0] w fun e w' => e = .returned (.bool true) ∧ Below w.heap.size w w' := by
  have W0 := Lib.hid w0
  clear w0
  by_cases hl : len0 ≤ 1048576
  · go_enter Try.func7, Try.ntmps7
    go_wp2_with fail
    refine (draw_new _ _ _ _ _ W0.out).mono ?_
    rintro e w1 ⟨a, b, x0, x1, y0, y1, rfl, b1⟩
    have B1 := Lib.hid b1
    clear b1 W0
    by_cases ha : a < 0 ∨ 255 < a
    · have HA := Lib.hid ha
      have E := Lib.hid (newT_no (a := a) (b := b) (.inl (byteB_out ha)))
      clear ha
      go_wp2_with fail
      refine (impl_newly _ _ _).mono ?_; rintro e w' ⟨rfl, rfl⟩
      rw [E.out]
      go_wp2_with fail
      refine (spec_newly _ _ _).mono ?_; rintro e w' ⟨rfl, rfl⟩
      rw [E.out]
      go_wp2_with fail
      refine (isByte_no _ _ HA.out).mono ?_; rintro e w' ⟨rfl, rfl⟩
      go_wp2_with fail
      refine (alive_any _).mono ?_; rintro e w' ⟨rfl, rfl⟩
      go_wp2_with fail
      go_ret
      exact ⟨rfl, B1.out⟩
    · have h0 : 0 ≤ a := by omega
      have h1 : a ≤ 255 := by omega
      clear ha
      by_cases hb : b < 0 ∨ 255 < b
      · have HB := Lib.hid hb
        have E := Lib.hid (newT_no (a := a) (b := b) (.inr (byteB_out hb)))
        clear hb
        go_wp2_with fail
        refine (impl_newly _ _ _).mono ?_; rintro e w' ⟨rfl, rfl⟩
        rw [E.out]
        go_wp2_with fail
        refine (spec_newly _ _ _).mono ?_; rintro e w' ⟨rfl, rfl⟩
        rw [E.out]
        go_wp2_with fail
        refine (isByte_yes _ _ h0 h1).mono ?_; rintro e w' ⟨rfl, rfl⟩
        go_wp2_with fail
        refine (isByte_no _ _ HB.out).mono ?_; rintro e w' ⟨rfl, rfl⟩
        go_wp2_with fail
        refine (alive_any _).mono ?_; rintro e w' ⟨rfl, rfl⟩
        go_wp2_with fail
        go_ret
        exact ⟨rfl, B1.out⟩
      · have h2 : 0 ≤ b := by omega
        have h3 : b ≤ 255 := by omega
        clear hb
        have KA := byteB_mk h0 h1
        have KB := byteB_mk h2 h3
        obtain ⟨n0, n1⟩ := newN_bd a b h3
        have E := Lib.hid (newT_yes KA KB)
        have E0 := Lib.hid (newT_yes (byteB_mk (show (0 : Int) ≤ 0 by omega) (by omega)) KB)
        have E1 := Lib.hid (newT_yes KA KA)
        have HF := Lib.hid (new_facts a b h0 h1 h2 h3)
        have HO := Lib.hid (new_ones a b h0 h1 h2 h3)
        clear KA KB
        go_wp2_with fail
        refine (impl_newly _ _ _).mono ?_; rintro e w' ⟨rfl, rfl⟩
        rw [E.out]
        go_wp2_with fail
        refine (spec_newly _ _ _).mono ?_; rintro e w' ⟨rfl, rfl⟩
        rw [E.out]
        go_wp2_with fail
        refine (isByte_yes _ _ h0 h1).mono ?_; rintro e w' ⟨rfl, rfl⟩
        go_wp2_with fail
        refine (isByte_yes _ _ h2 h3).mono ?_; rintro e w' ⟨rfl, rfl⟩
        obtain ⟨f1, f2, f3, f4, f5, f6⟩ := HF.out
        obtain ⟨o0, o1, o2⟩ := HO.out
        have g1 : (bits .and .i64 (newN a b) b == newN a b) = true := by rw [f1]; simp
        have g2 : (bits .and .i64 (newN a b) a == 0) = true := by rw [f2]; rfl
        have g3 : (bits .and .i64 (bits .or .i64 (newN a b) a) b == b) = true := by rw [f3]; simp
        clear f1 f2 f3 f6 o0 o1 o2
        go_wp2_with fail
        refine (impl_newly _ _ _).mono ?_; rintro e w' ⟨rfl, rfl⟩
        rw [E0.out, f4]
        go_wp2_with fail
        refine (impl_newly _ _ _).mono ?_; rintro e w' ⟨rfl, rfl⟩
        rw [E1.out, f5]
        go_wp2_with fail
        go_ret
        exact ⟨rfl, B1.out⟩
  · go_enter Try.func7, Try.ntmps7
    go_wp2_with fail
    go_ret
    exact ⟨rfl, Below.refl _ _⟩
theorem walk_FnPadChange (a0 : Option Addr) (len0 cap0 : Nat) (z0 : List Int) (w : World) (w0 : IsRow .u8 w a0 len0 cap0 z0) :
    Calls Try.prog 8 #[.slice a0 len0 cap0] w fun e w' => e = .returned (.bool true) ∧ Below w.heap.size w w' := by
  have W0 := Lib.hid w0
  clear w0
  by_cases hl : len0 ≤ 1048576
  · go_enter Try.func8, Try.ntmps8
    go_wp2_with fail
    refine (draw_new _ _ _ _ _ W0.out).mono ?_
    rintro e w1 ⟨a, b, x0, x1, y0, y1, rfl, b1⟩
    have B1 := Lib.hid b1
    clear b1 W0
    by_cases ha : a < 0 ∨ 255 < a
    · have HA := Lib.hid ha
      have E := Lib.hid (newT_no (a := a) (b := b) (.inl (byteB_out ha)))
      clear ha
      go_wp2_with fail
      refine (impl_newly _ _ _).mono ?_; rintro e w' ⟨rfl, rfl⟩
      rw [E.out]
      go_wp2_with fail
      refine (spec_newly _ _ _).mono ?_; rintro e w' ⟨rfl, rfl⟩
      rw [E.out]
      go_wp2_with fail
      refine (isByte_no _ _ HA.out).mono ?_; rintro e w' ⟨rfl, rfl⟩
      go_wp2_with fail
      refine (alive_any _).mono ?_; rintro e w' ⟨rfl, rfl⟩
      go_wp2_with fail
      go_ret
      exact ⟨rfl, B1.out⟩
    · have h0 : 0 ≤ a := by omega
      have h1 : a ≤ 255 := by omega
      clear ha
      by_cases hb : b < 0 ∨ 255 < b
      · have HB := Lib.hid hb
        have E := Lib.hid (newT_no (a := a) (b := b) (.inr (byteB_out hb)))
        clear hb
        go_wp2_with fail
        refine (impl_newly _ _ _).mono ?_; rintro e w' ⟨rfl, rfl⟩
        rw [E.out]
        go_wp2_with fail
        refine (spec_newly _ _ _).mono ?_; rintro e w' ⟨rfl, rfl⟩
        rw [E.out]
        go_wp2_with fail
        refine (isByte_yes _ _ h0 h1).mono ?_; rintro e w' ⟨rfl, rfl⟩
        go_wp2_with fail
        refine (isByte_no _ _ HB.out).mono ?_; rintro e w' ⟨rfl, rfl⟩
        go_wp2_with fail
        refine (alive_any _).mono ?_; rintro e w' ⟨rfl, rfl⟩
        go_wp2_with fail
        go_ret
        exact ⟨rfl, B1.out⟩
      · have h2 : 0 ≤ b := by omega
        have h3 : b ≤ 255 := by omega
        clear hb
        have KA := byteB_mk h0 h1
        have KB := byteB_mk h2 h3
        obtain ⟨n0, n1⟩ := newN_bd a b h3
        have E := Lib.hid (newT_yes KA KB)
        have E0 := Lib.hid (newT_yes (byteB_mk (show (0 : Int) ≤ 0 by omega) (by omega)) KB)
        have E1 := Lib.hid (newT_yes KA KA)
        have HF := Lib.hid (new_facts a b h0 h1 h2 h3)
        have HO := Lib.hid (new_ones a b h0 h1 h2 h3)
        clear KA KB
        go_wp2_with fail
        refine (impl_newly _ _ _).mono ?_; rintro e w' ⟨rfl, rfl⟩
        rw [E.out]
        go_wp2_with fail
        refine (spec_newly _ _ _).mono ?_; rintro e w' ⟨rfl, rfl⟩
        rw [E.out]
        go_wp2_with fail
        refine (isByte_yes _ _ h0 h1).mono ?_; rintro e w' ⟨rfl, rfl⟩
        go_wp2_with fail
        refine (isByte_yes _ _ h2 h3).mono ?_; rintro e w' ⟨rfl, rfl⟩
        obtain ⟨f1, f2, f3, f4, f5, f6⟩ := HF.out
        obtain ⟨o0, o1, o2⟩ := HO.out
        obtain ⟨s0, s1⟩ := ones_le (newN a b)
        obtain ⟨s2, s3⟩ := ones_le (bits .and .i64 a b)
        have g1 : (bits .or .i64 (newN a b) (bits .and .i64 a b) == b) = true := by rw [f6]; simp
        have g2 : (onesN (newN a b) + onesN (bits .and .i64 a b) == onesN b) = true := by rw [o2]; simp
        clear f1 f2 f3 f4 f5 f6 o2
        go_wp2_with fail
        refine (ones_of _ _ n0 n1).mono ?_; rintro e w' ⟨rfl, rfl⟩
        go_wp2_with fail
        refine (ones_of _ _ o0 o1).mono ?_; rintro e w' ⟨rfl, rfl⟩
        go_wp2_with fail
        refine (ones_of _ _ h2 h3).mono ?_; rintro e w' ⟨rfl, rfl⟩
        go_wp2_with fail
        go_ret
        exact ⟨rfl, B1.out⟩
  · go_enter Try.func8, Try.ntmps8
    go_wp2_with fail
    go_ret
    exact ⟨rfl, Below.refl _ _⟩
end Go.Proofs.Ytjfhdkidefkogaa
