/- Sums of bytes and of longer numbers, and the ones of an exclusive or: the remaining laws of chapter 1, walked. -/
import Derived.Test.YtickidnbcdoblaaBytesL
import Derived.Laws.Bits64
namespace Go.Proofs.Ytickidnbcdoblaa
open Go.ChangeShapes Go.WideShapes Go.ChangeAt Go.RowKit

theorem IsRow.keep {k : IntKind} {w w' : World} {a : Option Addr} {len cap : Nat} {zs : List Int} (h : IsRow k w a len cap zs) (b : Below w.heap.size w w') : IsRow k w' a len cap zs := by
  rcases h with h | ⟨x, rfl, hl, hm, hz, hc, hw⟩
  · exact .inl h
  · exact .inr ⟨x, rfl, hl, hm, hz, fun i hi => (b.cell (World.block_lt_of_cell? _ _ (hc i hi))).trans (hc i hi), hw⟩
theorem addN_comm (a b : Int) (c : Bool) : addN b a c = addN a b c := by unfold addN; rw [Int.add_comm b a]
theorem addC_comm (a b : Int) (c : Bool) : addC b a c = addC a b c := by unfold addC; rw [Int.add_comm b a]
theorem addV_comm (a b : Int) (c : Bool) : addV b a c = addV a b c := by unfold addV; rw [Int.add_comm (sgn b) (sgn a)]
theorem addN_lo (a b : Int) (c : Bool) (h0 : 0 ≤ a) (h2 : 0 ≤ b) (h : addC a b c = false) : addN a b c = a + b + digi c := by
  have := digi_bd c
  unfold addC at h; unfold addN; simp at h; omega
theorem addN_hi (a b : Int) (c : Bool) (h1 : a ≤ 255) (h3 : b ≤ 255) (h : addC a b c = true) : addN a b c = a + b + digi c - 256 := by
  have := digi_bd c
  unfold addC at h; unfold addN; simp at h; omega
theorem addV_eq (a b : Int) (c : Bool) (h0 : 0 ≤ a) (h1 : a ≤ 255) (h2 : 0 ≤ b) (h3 : b ≤ 255) : (sgn (addN a b c) != sgn a + sgn b + digi c) = addV a b c := by
  have := digi_bd c
  rw [Bool.eq_iff_iff]
  unfold addV addN sgn
  simp only [bne_iff_ne, ne_eq, Bool.or_eq_true, decide_eq_true_eq]
  split <;> split <;> split <;> omega
theorem walk_FnAddBytes (a0 : Option Addr) (len0 cap0 : Nat) (z0 : List Int) (w : World) (w0 : IsRow .u8 w a0 len0 cap0 z0) :
    Calls Try.prog 3 #[.slice a0 len0 cap0] w fun e w' => e = .returned (.bool true) ∧ Below w.heap.size w w' := by
  have W0 := Lib.hid w0
  clear w0
  by_cases hl : len0 ≤ 1048576
  · go_enter Try.func3, Try.ntmps3
    go_wp2_with fail
    refine (draw_add _ _ _ _ _ W0.out).mono ?_
    rintro e w1 ⟨a, b, c, x0, x1, y0, y1, rfl, b1⟩
    have B1 := Lib.hid b1
    clear b1 W0
    by_cases h : (a < 0 ∨ 255 < a) ∨ (b < 0 ∨ 255 < b)
    · have H := Lib.hid h
      go_wp2_with (first | (go_at_call 18; refine (impl_add_no _ _ _ _ H.out).mono ?_; rintro e w' ⟨rfl, rfl⟩) | (go_at_call 19; refine (spec_add_no _ _ _ _ H.out).mono ?_; rintro e w' ⟨rfl, rfl⟩))
      by_cases ha : a < 0 ∨ 255 < a
      · have HA := Lib.hid ha
        clear ha h
        refine (isByte_no _ _ HA.out).mono ?_; rintro e w' ⟨rfl, rfl⟩
        go_wp2_with fail
        refine (alive_any _).mono ?_; rintro e w' ⟨rfl, rfl⟩
        go_wp2_with fail
        go_ret
        exact ⟨rfl, B1.out⟩
      · have h0 : 0 ≤ a := by omega
        have h1 : a ≤ 255 := by omega
        have HB := Lib.hid (show b < 0 ∨ 255 < b by omega)
        clear ha h
        refine (isByte_yes _ _ h0 h1).mono ?_; rintro e w' ⟨rfl, rfl⟩
        go_wp2_with fail
        refine (isByte_no _ _ HB.out).mono ?_; rintro e w' ⟨rfl, rfl⟩
        go_wp2_with fail
        refine (alive_any _).mono ?_; rintro e w' ⟨rfl, rfl⟩
        go_wp2_with fail
        go_ret
        exact ⟨rfl, B1.out⟩
    · have h0 : 0 ≤ a := by omega
      have h1 : a ≤ 255 := by omega
      have h2 : 0 ≤ b := by omega
      have h3 : b ≤ 255 := by omega
      clear h
      obtain ⟨n0, n1⟩ := addN_bd a b c
      obtain ⟨s0, s1⟩ := sgn_bd a h0 h1
      obtain ⟨s2, s3⟩ := sgn_bd b h2 h3
      obtain ⟨s4, s5⟩ := sgn_bd (addN a b c) n0 n1
      have E1 := Lib.hid (addN_lo a b c h0 h2)
      have E2 := Lib.hid (addN_hi a b c h1 h3)
      have E3 := Lib.hid (addV_eq a b c h0 h1 h2 h3)
      go_wp2_with fail
      refine (impl_add _ _ _ _ h0 h1 h2 h3).mono ?_; rintro e w2 ⟨rfl, b2⟩
      go_wp2_with fail
      refine (spec_add _ _ _ _ h0 h1 h2 h3).mono ?_; rintro e w3 ⟨rfl, b3⟩
      have B3 := Lib.hid (below_then (below_then B1.out b2) b3)
      clear b2 b3 B1
      go_wp2_with fail
      refine (isByte_yes _ _ h0 h1).mono ?_; rintro e w' ⟨rfl, rfl⟩
      go_wp2_with fail
      refine (isByte_yes _ _ h2 h3).mono ?_; rintro e w' ⟨rfl, rfl⟩
      have e3 : (sgn (addN a b c) != sgn a + sgn b + (a + b + digi c) - a - b) = addV a b c := by rw [← E3.out]; congr 1; omega
      have e1 : (addC a b c = false → (addN a b c == a + b + digi c) = true) ∧ (addC a b c = true → (addN a b c == a + b + digi c - 256) = true) := ⟨fun h => by rw [E1.out h]; simp, fun h => by rw [E2.out h]; simp⟩
      clear E1 E2 E3
      have K1 := Lib.hid (addN_comm a b c)
      have K2 := Lib.hid (addC_comm a b c)
      have K3 := Lib.hid (addV_comm a b c)
      generalize hn : addN a b c = n at *
      generalize ho : addC a b c = o at *
      generalize hv : addV a b c = v at *
      clear hn ho hv
      cases c <;> cases o <;> simp only [digi, Bool.false_eq_true, if_false, if_true, Int.add_zero, false_implies, and_true, true_and, Bool.true_eq_false, forall_const] at e1 e3
      all_goals
        go_wp2_with fail
        refine (impl_add _ _ _ _ h2 h3 h0 h1).mono ?_; rintro e w4 ⟨rfl, b4⟩
        rw [K1.out, K2.out, K3.out]
        have B4 := Lib.hid (below_then B3.out b4)
        clear b4
        go_wp2_with fail
        refine (impl_sgn _ _ h0 h1).mono ?_; rintro e w' ⟨rfl, rfl⟩
        go_wp2_with fail
        refine (impl_sgn _ _ h2 h3).mono ?_; rintro e w' ⟨rfl, rfl⟩
        go_wp2_with fail
        refine (isByte_yes _ _ n0 n1).mono ?_; rintro e w' ⟨rfl, rfl⟩
        go_wp2_with fail
        refine (impl_sgn _ _ n0 n1).mono ?_; rintro e w' ⟨rfl, rfl⟩
        go_wp2_with fail
        go_ret
        exact ⟨rfl, B4.out⟩
  · go_enter Try.func3, Try.ntmps3
    go_wp2_with fail
    go_ret
    exact ⟨rfl, Below.refl _ _⟩
theorem chain_sum (a b c d : Int) (h0 : 0 ≤ a) (h1 : a ≤ 255) (h2 : 0 ≤ b) (h3 : b ≤ 255) (_h4 : 0 ≤ c) (_h5 : c ≤ 255) (_h6 : 0 ≤ d) (_h7 : d ≤ 255) :
    (addN a b false + 256 * addN c d (addC a b false) == (a + 256 * c + b + 256 * d) % 65536) = true ∧ decide (65535 < a + 256 * c + b + 256 * d) = addC c d (addC a b false) := by
  cases h : addC a b false
  · have e := addN_lo a b false h0 h2 h
    unfold addC at h
    simp only [digi, Bool.false_eq_true, if_false, Int.add_zero, decide_eq_false_iff_not] at h e
    unfold addC
    rw [e]
    unfold addN
    constructor
    · simp only [digi, Bool.false_eq_true, if_false, Int.add_zero, beq_iff_eq]; omega
    · simp only [digi, Bool.false_eq_true, if_false, Int.add_zero]; rw [decide_eq_decide]; omega
  · have e := addN_hi a b false h1 h3 h
    unfold addC at h
    simp only [digi, Bool.false_eq_true, if_false, Int.add_zero, decide_eq_true_eq] at h e
    unfold addC
    rw [e]
    unfold addN
    constructor
    · simp only [digi, if_true, beq_iff_eq]; omega
    · simp only [digi, if_true]; rw [decide_eq_decide]; omega
theorem walk_FnAddChain (a0 : Option Addr) (len0 cap0 : Nat) (z0 : List Int) (a1 : Option Addr) (len1 cap1 : Nat) (z1 : List Int) (w : World) (w0 : IsRow .u8 w a0 len0 cap0 z0) (w1 : IsRow .u8 w a1 len1 cap1 z1) :
    Calls Try.prog 9 #[.slice a0 len0 cap0, .slice a1 len1 cap1] w fun e w' => e = .returned (.bool true) ∧ Below w.heap.size w w' := by
  have W0 := Lib.hid w0
  have W1 := Lib.hid w1
  clear w0 w1
  by_cases hl : len0 ≤ 1048576
  · by_cases hl1 : len1 ≤ 1048576
    · go_enter Try.func9, Try.ntmps9
      go_wp2_with fail
      refine (draw_add _ _ _ _ _ W0.out).mono ?_
      rintro e w2 ⟨a, b, _, x0, x1, y0, y1, rfl, b2⟩
      have B2 := Lib.hid b2
      clear b2 W0
      go_wp2_with fail
      refine (draw_add _ _ _ _ _ (W1.out.keep B2.out)).mono ?_
      rintro e w3 ⟨c, d, _, p0, p1, q0, q1, rfl, b3⟩
      have B3 := Lib.hid (below_then B2.out b3)
      clear b3 B2 W1
      by_cases h : (a < 0 ∨ 255 < a) ∨ (b < 0 ∨ 255 < b)
      · have H := Lib.hid h
        go_wp2_with (first | (go_at_call 18; refine (impl_add_no _ _ _ _ H.out).mono ?_; rintro e w' ⟨rfl, rfl⟩) | (go_at_call 19; refine (spec_add_no _ _ _ _ H.out).mono ?_; rintro e w' ⟨rfl, rfl⟩))
        by_cases ha : a < 0 ∨ 255 < a
        · have HA := Lib.hid ha
          clear ha h
          refine (isByte_no _ _ HA.out).mono ?_; rintro e w' ⟨rfl, rfl⟩
          go_wp2_with fail
          refine (alive_any _).mono ?_; rintro e w' ⟨rfl, rfl⟩
          go_wp2_with fail
          go_ret
          exact ⟨rfl, B3.out⟩
        · have h0 : 0 ≤ a := by omega
          have h1 : a ≤ 255 := by omega
          have HB := Lib.hid (show b < 0 ∨ 255 < b by omega)
          clear ha h
          refine (isByte_yes _ _ h0 h1).mono ?_; rintro e w' ⟨rfl, rfl⟩
          go_wp2_with fail
          refine (isByte_no _ _ HB.out).mono ?_; rintro e w' ⟨rfl, rfl⟩
          go_wp2_with fail
          refine (alive_any _).mono ?_; rintro e w' ⟨rfl, rfl⟩
          go_wp2_with fail
          go_ret
          exact ⟨rfl, B3.out⟩
      · have h0 : 0 ≤ a := by omega
        have h1 : a ≤ 255 := by omega
        have h2 : 0 ≤ b := by omega
        have h3 : b ≤ 255 := by omega
        clear h
        obtain ⟨n0, n1⟩ := addN_bd a b false
        go_wp2_with fail
        refine (impl_add _ _ _ _ h0 h1 h2 h3).mono ?_; rintro e w4 ⟨rfl, b4⟩
        go_wp2_with fail
        refine (spec_add _ _ _ _ h0 h1 h2 h3).mono ?_; rintro e w5 ⟨rfl, b5⟩
        have B5 := Lib.hid (below_then (below_then B3.out b4) b5)
        clear b4 b5 B3
        go_wp2_with fail
        refine (isByte_yes _ _ h0 h1).mono ?_; rintro e w' ⟨rfl, rfl⟩
        go_wp2_with fail
        refine (isByte_yes _ _ h2 h3).mono ?_; rintro e w' ⟨rfl, rfl⟩
        by_cases hc : c < 0 ∨ 255 < c
        · have HC := Lib.hid hc
          clear hc
          go_wp2_with fail
          refine (isByte_no _ _ HC.out).mono ?_; rintro e w' ⟨rfl, rfl⟩
          go_wp2_with fail
          refine (alive_any _).mono ?_; rintro e w' ⟨rfl, rfl⟩
          go_wp2_with fail
          go_ret
          exact ⟨rfl, B5.out⟩
        · have h4 : 0 ≤ c := by omega
          have h5 : c ≤ 255 := by omega
          clear hc
          go_wp2_with fail
          refine (isByte_yes _ _ h4 h5).mono ?_; rintro e w' ⟨rfl, rfl⟩
          by_cases hd : d < 0 ∨ 255 < d
          · have HD := Lib.hid hd
            clear hd
            go_wp2_with fail
            refine (isByte_no _ _ HD.out).mono ?_; rintro e w' ⟨rfl, rfl⟩
            go_wp2_with fail
            refine (alive_any _).mono ?_; rintro e w' ⟨rfl, rfl⟩
            go_wp2_with fail
            go_ret
            exact ⟨rfl, B5.out⟩
          · have h6 : 0 ≤ d := by omega
            have h7 : d ≤ 255 := by omega
            clear hd
            go_wp2_with fail
            refine (isByte_yes _ _ h6 h7).mono ?_; rintro e w' ⟨rfl, rfl⟩
            go_wp2_with fail
            refine (impl_add _ _ _ _ h4 h5 h6 h7).mono ?_; rintro e w6 ⟨rfl, b6⟩
            obtain ⟨e1, e2⟩ := chain_sum a b c d h0 h1 h2 h3 h4 h5 h6 h7
            obtain ⟨m0, m1⟩ := addN_bd c d (addC a b false)
            have B6 := Lib.hid (below_then B5.out b6)
            clear b6 B5
            go_wp2_with fail
            go_ret
            exact ⟨rfl, B6.out⟩
    · go_enter Try.func9, Try.ntmps9
      go_wp2_with fail
      go_ret
      exact ⟨rfl, Below.refl _ _⟩
  · go_enter Try.func9, Try.ntmps9
    go_wp2_with fail
    go_ret
    exact ⟨rfl, Below.refl _ _⟩
def dig (x k : Nat) : Nat := x / 2 ^ k % 2
theorem dig_lt (x k : Nat) : dig x k < 2 := Nat.mod_lt _ (by decide)
theorem dig_xor (x y k : Nat) : dig (x ^^^ y) k + 2 * dig (x &&& y) k = dig x k + dig y k := by
  have h1 := Nat.testBit_xor x y k
  have h2 := Nat.testBit_and x y k
  simp only [Nat.testBit_eq_decide_div_mod_eq] at h1 h2
  have a1 := dig_lt x k
  have a2 := dig_lt y k
  have a3 := dig_lt (x ^^^ y) k
  have a4 := dig_lt (x &&& y) k
  unfold dig at *
  by_cases p : x / 2 ^ k % 2 = 1 <;> by_cases q : y / 2 ^ k % 2 = 1 <;> simp [p, q] at h1 h2 <;> omega
theorem ones_dig (x : Nat) : onesN (x : Int) = ((dig x 0 + dig x 1 + dig x 2 + dig x 3 + dig x 4 + dig x 5 + dig x 6 + dig x 7 : Nat) : Int) := by
  simp [onesN, dig]
theorem ones_xor_nat (x y : Nat) : onesN ((x ^^^ y : Nat) : Int) = onesN (x : Int) + onesN (y : Int) - 2 * onesN ((x &&& y : Nat) : Int) := by
  have e := fun k => dig_xor x y k
  have e0 := e 0; have e1 := e 1; have e2 := e 2; have e3 := e 3; have e4 := e 4; have e5 := e 5; have e6 := e 6; have e7 := e 7
  rw [ones_dig, ones_dig, ones_dig, ones_dig]
  omega
theorem and_i64_nat (a b : Nat) (ha : a < 9223372036854775808) (hb : b < 9223372036854775808) : bits .and .i64 (a : Int) (b : Int) = ((a &&& b : Nat) : Int) := by
  have hx : a &&& b < 2 ^ 63 := Nat.and_lt_two_pow _ (by omega)
  have h1 : (BitVec.ofInt 64 (a : Int)).toNat = a := by
    rw [BitVec.ofInt_natCast, BitVec.toNat_ofNat]; exact Nat.mod_eq_of_lt (by omega)
  have h2 : (BitVec.ofInt 64 (b : Int)).toNat = b := by
    rw [BitVec.ofInt_natCast, BitVec.toNat_ofNat]; exact Nat.mod_eq_of_lt (by omega)
  show IntKind.i64.wrap ((BitVec.ofInt 64 (a : Int) &&& BitVec.ofInt 64 (b : Int)).toNat : Int) = _
  rw [BitVec.toNat_and, h1, h2, IntKind.wrap_i64]
  omega
theorem bytes_bits (a b : Int) (h0 : 0 ≤ a) (h1 : a ≤ 255) (h2 : 0 ≤ b) (h3 : b ≤ 255) :
    0 ≤ bits .xor .i64 a b ∧ bits .xor .i64 a b ≤ 255 ∧ 0 ≤ bits .and .i64 a b ∧ bits .and .i64 a b ≤ 255 ∧ onesN (bits .xor .i64 a b) = onesN a + onesN b - 2 * onesN (bits .and .i64 a b) := by
  obtain ⟨x, rfl⟩ := Int.eq_ofNat_of_zero_le h0
  obtain ⟨y, rfl⟩ := Int.eq_ofNat_of_zero_le h2
  have k1 : x ^^^ y < 2 ^ 8 := Nat.xor_lt_two_pow (by omega) (by omega)
  have k2 : x &&& y < 2 ^ 8 := Nat.and_lt_two_pow _ (by omega)
  rw [xor_i64_nat x y (by omega) (by omega), and_i64_nat x y (by omega) (by omega)]
  exact ⟨by omega, by omega, by omega, by omega, ones_xor_nat x y⟩
theorem walk_FnOnesXor (a0 : Option Addr) (len0 cap0 : Nat) (z0 : List Int) (w : World) (w0 : IsRow .u8 w a0 len0 cap0 z0) :
    Calls Try.prog 10 #[.slice a0 len0 cap0] w fun e w' => e = .returned (.bool true) ∧ Below w.heap.size w w' := by
  have W0 := Lib.hid w0
  clear w0
  by_cases hl : len0 ≤ 1048576
  · go_enter Try.func10, Try.ntmps10
    go_wp2_with fail
    refine (draw_new _ _ _ _ _ W0.out).mono ?_
    rintro e w1 ⟨a, b, x0, x1, y0, y1, rfl, b1⟩
    have B1 := Lib.hid b1
    clear b1 W0
    by_cases ha : a < 0 ∨ 255 < a
    · have HA := Lib.hid ha
      clear ha
      go_wp2_with fail
      refine (impl_ones_no _ _ HA.out).mono ?_; rintro e w' ⟨rfl, rfl⟩
      go_wp2_with fail
      refine (spec_ones_no _ _ HA.out).mono ?_; rintro e w' ⟨rfl, rfl⟩
      go_wp2_with fail
      refine (isByte_no _ _ HA.out).mono ?_; rintro e w' ⟨rfl, rfl⟩
      go_wp2_with fail
      refine (alive_any _).mono ?_; rintro e w' ⟨rfl, rfl⟩
      go_wp2_with fail
      go_ret
      exact ⟨rfl, B1.out⟩
    · have h0 : 0 ≤ a := by omega
      have h1 : a ≤ 255 := by omega
      clear ha
      go_wp2_with fail
      refine (impl_ones _ _ h0 h1).mono ?_; rintro e w' ⟨rfl, rfl⟩
      go_wp2_with fail
      refine (spec_ones _ _ h0 h1).mono ?_; rintro e w' ⟨rfl, rfl⟩
      go_wp2_with fail
      refine (isByte_yes _ _ h0 h1).mono ?_; rintro e w' ⟨rfl, rfl⟩
      by_cases hb : b < 0 ∨ 255 < b
      · have HB := Lib.hid hb
        clear hb
        go_wp2_with fail
        refine (isByte_no _ _ HB.out).mono ?_; rintro e w' ⟨rfl, rfl⟩
        go_wp2_with fail
        refine (alive_any _).mono ?_; rintro e w' ⟨rfl, rfl⟩
        go_wp2_with fail
        go_ret
        exact ⟨rfl, B1.out⟩
      · have h2 : 0 ≤ b := by omega
        have h3 : b ≤ 255 := by omega
        clear hb
        obtain ⟨u0, u1, v0, v1, eq⟩ := bytes_bits a b h0 h1 h2 h3
        obtain ⟨s0, s1⟩ := ones_bd a
        obtain ⟨s2, s3⟩ := ones_bd b
        obtain ⟨s4, s5⟩ := ones_bd (bits .and .i64 a b)
        have e1 : (onesN (bits .xor .i64 a b) == onesN a + onesN b - 2 * onesN (bits .and .i64 a b)) = true := by rw [eq]; simp
        clear eq
        go_wp2_with fail
        refine (isByte_yes _ _ h2 h3).mono ?_; rintro e w' ⟨rfl, rfl⟩
        go_wp2_with fail
        refine (impl_ones _ _ u0 u1).mono ?_; rintro e w' ⟨rfl, rfl⟩
        go_wp2_with fail
        refine (impl_ones _ _ h0 h1).mono ?_; rintro e w' ⟨rfl, rfl⟩
        go_wp2_with fail
        refine (impl_ones _ _ h2 h3).mono ?_; rintro e w' ⟨rfl, rfl⟩
        go_wp2_with fail
        refine (impl_ones _ _ v0 v1).mono ?_; rintro e w' ⟨rfl, rfl⟩
        go_wp2_with fail
        go_ret
        exact ⟨rfl, B1.out⟩
  · go_enter Try.func10, Try.ntmps10
    go_wp2_with fail
    go_ret
    exact ⟨rfl, Below.refl _ _⟩
end Go.Proofs.Ytickidnbcdoblaa
