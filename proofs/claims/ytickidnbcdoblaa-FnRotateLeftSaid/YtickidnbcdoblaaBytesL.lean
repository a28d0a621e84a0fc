/- The laws of chapter 1, walked: each returns true for whatever bytes it draws from, and changes no memory that was there. -/
import Derived.Test.YtickidnbcdoblaaBytesB
import Derived.Test.YtickidnbcdoblaaDrawC
namespace Go.Proofs.Ytickidnbcdoblaa
open Go.ChangeShapes Go.WideShapes Go.ChangeAt Go.RowKit

theorem isByte_yes (a : Int) (w : World) (h0 : 0 ≤ a) (h1 : a ≤ 255) :
    Calls Try.prog 20 #[.int .i64 a] w fun e w' => e = .returned (.bool true) ∧ w = w' := by
  go_enter Try.func20, Try.ntmps20
  go_wp2
  go_ret
  exact ⟨rfl, rfl⟩
theorem isByte_no (a : Int) (w : World) (h : a < 0 ∨ 255 < a) :
    Calls Try.prog 20 #[.int .i64 a] w fun e w' => e = .returned (.bool false) ∧ w = w' := by
  by_cases h0 : a < 0
  · have hd : decide (0 ≤ a) = false := by simp; omega
    clear h
    go_enter Try.func20, Try.ntmps20
    go_wp2
    go_ret
    exact ⟨rfl, rfl⟩
  · have h2 : 0 ≤ a := by omega
    have hd : decide (a ≤ 255) = false := by simp; omega
    clear h h0
    go_enter Try.func20, Try.ntmps20
    go_wp2
    go_ret
    exact ⟨rfl, rfl⟩
theorem alive_any (w : World) : Calls Try.prog 21 #[] w fun e w' => e = .returned (.bool true) ∧ w = w' := by
  go_enter Try.func21, Try.ntmps21
  go_wp2_with fail
  refine (impl_sgn 255 _ (by omega) (by omega)).mono ?_; rintro e w' ⟨rfl, rfl⟩
  have hs : sgn 255 = -1 := by decide
  go_wp2_with fail
  go_ret
  exact ⟨rfl, rfl⟩
theorem walk_FnSignedByte (a0 : Option Addr) (len0 cap0 : Nat) (z0 : List Int) (w : World) (w0 : IsRow .u8 w a0 len0 cap0 z0) :
    Calls Try.prog 5 #[.slice a0 len0 cap0] w fun e w' => e = .returned (.bool true) ∧ Below w.heap.size w w' := by
  have W0 := Lib.hid w0
  clear w0
  by_cases hl : len0 ≤ 1048576
  · go_enter Try.func5, Try.ntmps5
    go_wp2_with fail
    refine (draw_sgn _ _ _ _ _ W0.out).mono ?_
    rintro e w1 ⟨a, x0, x1, rfl, b1⟩
    have B1 := Lib.hid b1
    clear b1 W0
    by_cases h : a < 0 ∨ 255 < a
    · have H := Lib.hid h
      clear h
      go_wp2_with fail
      refine (impl_sgn_no _ _ H.out).mono ?_; rintro e w' ⟨rfl, rfl⟩
      go_wp2_with fail
      refine (spec_sgn_no _ _ H.out).mono ?_; rintro e w' ⟨rfl, rfl⟩
      go_wp2_with fail
      refine (isByte_no _ _ H.out).mono ?_; rintro e w' ⟨rfl, rfl⟩
      go_wp2_with fail
      refine (alive_any _).mono ?_; rintro e w' ⟨rfl, rfl⟩
      go_wp2_with fail
      go_ret
      exact ⟨rfl, B1.out⟩
    · have h0 : 0 ≤ a := by omega
      have h1 : a ≤ 255 := by omega
      clear h
      obtain ⟨s0, s1⟩ := sgn_bd a h0 h1
      go_wp2_with fail
      refine (impl_sgn _ _ h0 h1).mono ?_; rintro e w' ⟨rfl, rfl⟩
      go_wp2_with fail
      refine (spec_sgn _ _ h0 h1).mono ?_; rintro e w' ⟨rfl, rfl⟩
      go_wp2_with fail
      refine (isByte_yes _ _ h0 h1).mono ?_; rintro e w' ⟨rfl, rfl⟩
      by_cases hh : a < 128
      · have e1 : (sgn a == a) = true := by unfold sgn; rw [if_neg (by omega)]; simp
        go_wp2_with fail
        go_ret
        exact ⟨rfl, B1.out⟩
      · have e1 : (sgn a == a) = false := by unfold sgn; rw [if_pos (by omega)]; simp; omega
        have e2 : (sgn a == a - 256) = true := by unfold sgn; rw [if_pos (by omega)]; simp
        go_wp2_with fail
        go_ret
        exact ⟨rfl, B1.out⟩
  · go_enter Try.func5, Try.ntmps5
    go_wp2_with fail
    go_ret
    exact ⟨rfl, Below.refl _ _⟩
theorem ones_bd (a : Int) : 0 ≤ onesN a ∧ onesN a ≤ 8 := by unfold onesN; omega
theorem ones_not (a : Int) (h0 : 0 ≤ a) (h1 : a ≤ 255) : onesN a + onesN (255 - a) = 8 :=
  byte_all (P := fun a => onesN a + onesN (255 - a) = 8) (by decide +kernel) a h0 h1
theorem walk_FnCountOnes (a0 : Option Addr) (len0 cap0 : Nat) (z0 : List Int) (w : World) (w0 : IsRow .u8 w a0 len0 cap0 z0) :
    Calls Try.prog 8 #[.slice a0 len0 cap0] w fun e w' => e = .returned (.bool true) ∧ Below w.heap.size w w' := by
  have W0 := Lib.hid w0
  clear w0
  by_cases hl : len0 ≤ 1048576
  · go_enter Try.func8, Try.ntmps8
    go_wp2_with fail
    refine (draw_ones _ _ _ _ _ W0.out).mono ?_
    rintro e w1 ⟨a, x0, x1, rfl, b1⟩
    have B1 := Lib.hid b1
    clear b1 W0
    by_cases h : a < 0 ∨ 255 < a
    · have H := Lib.hid h
      clear h
      go_wp2_with fail
      refine (impl_ones_no _ _ H.out).mono ?_; rintro e w' ⟨rfl, rfl⟩
      go_wp2_with fail
      refine (spec_ones_no _ _ H.out).mono ?_; rintro e w' ⟨rfl, rfl⟩
      go_wp2_with fail
      refine (isByte_no _ _ H.out).mono ?_; rintro e w' ⟨rfl, rfl⟩
      go_wp2_with fail
      refine (alive_any _).mono ?_; rintro e w' ⟨rfl, rfl⟩
      go_wp2_with fail
      go_ret
      exact ⟨rfl, B1.out⟩
    · have h0 : 0 ≤ a := by omega
      have h1 : a ≤ 255 := by omega
      clear h
      obtain ⟨s0, s1⟩ := ones_bd a
      obtain ⟨s2, s3⟩ := ones_bd (255 - a)
      have e1 : (onesN a + onesN (255 - a) == 8) = true := by rw [ones_not a h0 h1]; rfl
      go_wp2_with fail
      refine (impl_ones _ _ h0 h1).mono ?_; rintro e w' ⟨rfl, rfl⟩
      go_wp2_with fail
      refine (spec_ones _ _ h0 h1).mono ?_; rintro e w' ⟨rfl, rfl⟩
      go_wp2_with fail
      refine (isByte_yes _ _ h0 h1).mono ?_; rintro e w' ⟨rfl, rfl⟩
      go_wp2_with fail
      refine (impl_ones _ _ (by omega) (by omega)).mono ?_; rintro e w' ⟨rfl, rfl⟩
      go_wp2_with fail
      go_ret
      exact ⟨rfl, B1.out⟩
  · go_enter Try.func8, Try.ntmps8
    go_wp2_with fail
    go_ret
    exact ⟨rfl, Below.refl _ _⟩
theorem sub_add (a b : Int) (c : Bool) (h0 : 0 ≤ a) (h1 : a ≤ 255) : addN (subN a b c) b c = a := by
  unfold addN subN; omega
theorem sub_addC (a b : Int) (c : Bool) (h0 : 0 ≤ a) (h1 : a ≤ 255) (h2 : 0 ≤ b) (h3 : b ≤ 255) : addC (subN a b c) b c = subC a b c := by
  have hd := digi_bd c
  unfold addC subN subC
  rw [Bool.eq_iff_iff]
  simp only [decide_eq_true_eq]
  omega
theorem walk_FnSubBytes (a0 : Option Addr) (len0 cap0 : Nat) (z0 : List Int) (w : World) (w0 : IsRow .u8 w a0 len0 cap0 z0) :
    Calls Try.prog 4 #[.slice a0 len0 cap0] w fun e w' => e = .returned (.bool true) ∧ Below w.heap.size w w' := by
  have W0 := Lib.hid w0
  clear w0
  by_cases hl : len0 ≤ 1048576
  · go_enter Try.func4, Try.ntmps4
    go_wp2_with fail
    refine (draw_sub _ _ _ _ _ W0.out).mono ?_
    rintro e w1 ⟨a, b, c, x0, x1, y0, y1, rfl, b1⟩
    have B1 := Lib.hid b1
    clear b1 W0
    by_cases h : (a < 0 ∨ 255 < a) ∨ (b < 0 ∨ 255 < b)
    · have H := Lib.hid h
      go_wp2_with (first | (go_at_call 24; refine (impl_sub_no _ _ _ _ H.out).mono ?_; rintro e w' ⟨rfl, rfl⟩) | (go_at_call 25; refine (spec_sub_no _ _ _ _ H.out).mono ?_; rintro e w' ⟨rfl, rfl⟩))
      by_cases ha : a < 0 ∨ 255 < a
      · have HA := Lib.hid ha
        clear ha h
        refine (isByte_no _ _ HA.out).mono ?_; rintro e w' ⟨rfl, rfl⟩
        go_wp2_with fail
        refine (alive_any _).mono ?_; rintro e w' ⟨rfl, rfl⟩
        go_wp2_with fail
        go_ret
        exact ⟨rfl, B1.out⟩
      · have h0 : 0 ≤ a := by omega
        have h1 : a ≤ 255 := by omega
        have HB := Lib.hid (show b < 0 ∨ 255 < b by omega)
        clear ha h
        refine (isByte_yes _ _ h0 h1).mono ?_; rintro e w' ⟨rfl, rfl⟩
        go_wp2_with fail
        refine (isByte_no _ _ HB.out).mono ?_; rintro e w' ⟨rfl, rfl⟩
        go_wp2_with fail
        refine (alive_any _).mono ?_; rintro e w' ⟨rfl, rfl⟩
        go_wp2_with fail
        go_ret
        exact ⟨rfl, B1.out⟩
    · have h0 : 0 ≤ a := by omega
      have h1 : a ≤ 255 := by omega
      have h2 : 0 ≤ b := by omega
      have h3 : b ≤ 255 := by omega
      clear h
      obtain ⟨n0, n1⟩ := subN_bd a b c
      have e1 : Hid (addN (subN a b c) b c = a) := sub_add a b c h0 h1
      have e2 : Hid (addC (subN a b c) b c = subC a b c) := sub_addC a b c h0 h1 h2 h3
      go_wp2_with fail
      refine (impl_sub _ _ _ _ h0 h1 h2 h3).mono ?_; rintro e w2 ⟨rfl, b2⟩
      go_wp2_with fail
      refine (spec_sub _ _ _ _ h0 h1 h2 h3).mono ?_; rintro e w3 ⟨rfl, b3⟩
      have B3 := Lib.hid (below_then (below_then B1.out b2) b3)
      clear b2 b3 B1
      go_wp2_with fail
      refine (isByte_yes _ _ h0 h1).mono ?_; rintro e w' ⟨rfl, rfl⟩
      go_wp2_with fail
      refine (isByte_yes _ _ h2 h3).mono ?_; rintro e w' ⟨rfl, rfl⟩
      go_wp2_with fail
      refine (impl_add _ _ _ _ n0 n1 h2 h3).mono ?_; rintro e w4 ⟨rfl, b4⟩
      rw [e1.out, e2.out]
      have B4 := Lib.hid (below_then B3.out b4)
      clear b4 B3
      go_wp2_with fail
      refine (isByte_yes _ _ n0 n1).mono ?_; rintro e w' ⟨rfl, rfl⟩
      go_wp2_with fail
      go_ret
      exact ⟨rfl, B4.out⟩
  · go_enter Try.func4, Try.ntmps4
    go_wp2_with fail
    go_ret
    exact ⟨rfl, Below.refl _ _⟩
end Go.Proofs.Ytickidnbcdoblaa
