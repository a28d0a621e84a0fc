/- More laws of chapter 1, walked: rotations, sums, and the ones of an exclusive or. -/
import Derived.Test.YtickidnbcdoblaaBytesL
namespace Go.Proofs.Ytickidnbcdoblaa
open Go.ChangeShapes Go.WideShapes Go.ChangeAt Go.RowKit

theorem bool_all {P : Int → Bool → Prop} (h : ∀ n : Fin 256, ∀ c : Bool, P (n.val : Int) c) (a : Int) (c : Bool) (h0 : 0 ≤ a) (h1 : a ≤ 255) : P a c :=
  byte_all (P := fun a => P a c) (fun n => h n c) a h0 h1
theorem ror_rol (a : Int) (c : Bool) (h0 : 0 ≤ a) (h1 : a ≤ 255) : rorN (rolN a c) (rolC a) = a := by
  unfold rorN rolN rolC digi
  by_cases h : 128 ≤ a <;> cases c <;> simp [h] <;> omega
theorem ror_rolC (a : Int) (c : Bool) : rorC (rolN a c) = c := by
  unfold rorC rolN digi
  cases c <;> simp <;> omega
theorem rol_ror (a : Int) (c : Bool) (h0 : 0 ≤ a) (h1 : a ≤ 255) : rolN (rorN a c) (rorC a) = a := by
  unfold rorN rolN rorC digi
  by_cases h : a % 2 = 1 <;> cases c <;> simp [h] <;> omega
theorem rol_rorC (a : Int) (c : Bool) (h0 : 0 ≤ a) (h1 : a ≤ 255) : rolC (rorN a c) = c := by
  unfold rolC rorN digi
  cases c <;> simp <;> omega
theorem ones_ror (a : Int) (c : Bool) (h0 : 0 ≤ a) (h1 : a ≤ 255) : onesN (rorN a c) + digi (rorC a) = onesN a + digi c :=
  bool_all (P := fun a c => onesN (rorN a c) + digi (rorC a) = onesN a + digi c) (by decide +kernel) a c h0 h1
/-- k rotations to the left. -/
def rolIt : Nat → Int × Bool → Int × Bool
  | 0, p => p
  | k + 1, p => (rolN (rolIt k p).1 (rolIt k p).2, rolC (rolIt k p).1)
theorem rolIt_bd (k : Nat) (a : Int) (c : Bool) (h0 : 0 ≤ a) (h1 : a ≤ 255) : 0 ≤ (rolIt k (a, c)).1 ∧ (rolIt k (a, c)).1 ≤ 255 := by
  cases k with
  | zero => exact ⟨h0, h1⟩
  | succ k => exact rolN_bd _ _
theorem rolIt_9 (a : Int) (c : Bool) (h0 : 0 ≤ a) (h1 : a ≤ 255) : rolIt 9 (a, c) = (a, c) :=
  bool_all (P := fun a c => rolIt 9 (a, c) = (a, c)) (by decide +kernel) a c h0 h1
theorem walk_FnRotateLeft (a0 : Option Addr) (len0 cap0 : Nat) (z0 : List Int) (w : World) (w0 : IsRow .u8 w a0 len0 cap0 z0) :
    Calls Try.prog 6 #[.slice a0 len0 cap0] w fun e w' => e = .returned (.bool true) ∧ Below w.heap.size w w' := by
  have W0 := Lib.hid w0
  clear w0
  by_cases hl : len0 ≤ 1048576
  · go_enter Try.func6, Try.ntmps6
    go_wp2_with fail
    refine (draw_rol _ _ _ _ _ W0.out).mono ?_
    rintro e w1 ⟨a, c, x0, x1, rfl, b1⟩
    have B1 := Lib.hid b1
    clear b1 W0
    by_cases h : a < 0 ∨ 255 < a
    · have H := Lib.hid h
      clear h
      go_wp2_with fail
      refine (impl_rol_no _ _ _ H.out).mono ?_; rintro e w' ⟨rfl, rfl⟩
      go_wp2_with fail
      refine (spec_rol_no _ _ _ H.out).mono ?_; rintro e w' ⟨rfl, rfl⟩
      go_wp2_with fail
      refine (isByte_no _ _ H.out).mono ?_; rintro e w' ⟨rfl, rfl⟩
      go_wp2_with fail
      refine (alive_any _).mono ?_; rintro e w' ⟨rfl, rfl⟩
      go_wp2_with fail
      go_ret
      exact ⟨rfl, B1.out⟩
    · have h0 : 0 ≤ a := by omega
      have h1 : a ≤ 255 := by omega
      clear h
      obtain ⟨n0, n1⟩ := rolN_bd a c
      have e1 : Hid (rorN (rolN a c) (rolC a) = a) := ror_rol a c h0 h1
      have e2 : Hid (rorC (rolN a c) = c) := ror_rolC a c
      have e9 : Hid (rolIt 9 (a, c) = (a, c)) := rolIt_9 a c h0 h1
      go_wp2_with fail
      refine (impl_rol _ _ _ h0 h1).mono ?_; rintro e w2 ⟨rfl, b2⟩
      go_wp2_with fail
      refine (spec_rol _ _ _ h0 h1).mono ?_; rintro e w3 ⟨rfl, b3⟩
      have B3 := Lib.hid (below_then (below_then B1.out b2) b3)
      clear b2 b3 B1
      go_wp2_with fail
      refine (isByte_yes _ _ h0 h1).mono ?_; rintro e w' ⟨rfl, rfl⟩
      go_wp2_with fail
      refine (impl_ror _ _ _ n0 n1).mono ?_; rintro e w4 ⟨rfl, b4⟩
      rw [e1.out, e2.out]
      have B4 := Lib.hid (below_then B3.out b4)
      clear b4 B3 e1 e2
      go_wp2_with fail
      go_loopw [11, 12, 13] (fun u v i wr => ∃ k : Nat, k ≤ 9 ∧ u = .int .i64 (rolIt k (a, c)).1 ∧ v = .bool (rolIt k (a, c)).2 ∧ i = .int .i64 k ∧ Below w.heap.size w wr) (fun _ _ i _ => 9 - (intOf i).toNat)
      case atStart => exact ⟨0, by omega, rfl, rfl, rfl, B4.out⟩
      case round =>
        obtain ⟨k, hk, rfl, rfl, rfl, b5⟩ := hrel
        have B5 := Lib.hid b5
        clear b5 B4
        obtain ⟨r0, r1⟩ := rolIt_bd k a c h0 h1
        by_cases hlt : k < 9
        · go_wp2_with fail
          refine (impl_rol _ _ _ r0 r1).mono ?_; rintro e w6 ⟨rfl, b6⟩
          have B6 := Lib.hid (below_then B5.out b6)
          clear b6 B5
          go_wp2_with fail
          go_roundw
          case rel => exact ⟨k + 1, by omega, rfl, rfl, by go_num, B6.out⟩
          case measure => simp [intOf]; omega
        · obtain rfl : k = 9 := by omega
          rw [e9.out]
          clear r0 r1
          go_wp2_with fail
          refine (isByte_yes _ _ n0 n1).mono ?_; rintro e w' ⟨rfl, rfl⟩
          go_wp2_with fail
          go_ret
          exact ⟨rfl, B5.out⟩
  · go_enter Try.func6, Try.ntmps6
    go_wp2_with fail
    go_ret
    exact ⟨rfl, Below.refl _ _⟩
theorem ones_cases (a n : Int) (d c : Bool) (h : onesN n + digi d = onesN a + digi c) : ((onesN a + digi c) == (onesN n + digi d)) = true := by rw [h]; simp
theorem walk_FnRotateRight (a0 : Option Addr) (len0 cap0 : Nat) (z0 : List Int) (w : World) (w0 : IsRow .u8 w a0 len0 cap0 z0) :
    Calls Try.prog 7 #[.slice a0 len0 cap0] w fun e w' => e = .returned (.bool true) ∧ Below w.heap.size w w' := by
  have W0 := Lib.hid w0
  clear w0
  by_cases hl : len0 ≤ 1048576
  · go_enter Try.func7, Try.ntmps7
    go_wp2_with fail
    refine (draw_ror _ _ _ _ _ W0.out).mono ?_
    rintro e w1 ⟨a, c, x0, x1, rfl, b1⟩
    have B1 := Lib.hid b1
    clear b1 W0
    by_cases h : a < 0 ∨ 255 < a
    · have H := Lib.hid h
      clear h
      go_wp2_with fail
      refine (impl_ror_no _ _ _ H.out).mono ?_; rintro e w' ⟨rfl, rfl⟩
      go_wp2_with fail
      refine (spec_ror_no _ _ _ H.out).mono ?_; rintro e w' ⟨rfl, rfl⟩
      go_wp2_with fail
      refine (isByte_no _ _ H.out).mono ?_; rintro e w' ⟨rfl, rfl⟩
      go_wp2_with fail
      refine (alive_any _).mono ?_; rintro e w' ⟨rfl, rfl⟩
      go_wp2_with fail
      go_ret
      exact ⟨rfl, B1.out⟩
    · have h0 : 0 ≤ a := by omega
      have h1 : a ≤ 255 := by omega
      clear h
      obtain ⟨n0, n1⟩ := rorN_bd a c h0 h1
      obtain ⟨s0, s1⟩ := ones_bd a
      obtain ⟨s2, s3⟩ := ones_bd (rorN a c)
      have e1 : Hid (rolN (rorN a c) (rorC a) = a) := rol_ror a c h0 h1
      have e2 : Hid (rolC (rorN a c) = c) := rol_rorC a c h0 h1
      have e3 := Lib.hid (ones_ror a c h0 h1)
      go_wp2_with fail
      refine (impl_ror _ _ _ h0 h1).mono ?_; rintro e w2 ⟨rfl, b2⟩
      go_wp2_with fail
      refine (spec_ror _ _ _ h0 h1).mono ?_; rintro e w3 ⟨rfl, b3⟩
      have B3 := Lib.hid (below_then (below_then B1.out b2) b3)
      clear b2 b3 B1
      go_wp2_with fail
      refine (isByte_yes _ _ h0 h1).mono ?_; rintro e w' ⟨rfl, rfl⟩
      go_wp2_with fail
      refine (impl_ones _ _ h0 h1).mono ?_; rintro e w' ⟨rfl, rfl⟩
      go_wp2_with fail
      refine (impl_ones _ _ n0 n1).mono ?_; rintro e w' ⟨rfl, rfl⟩
      have hr := ones_cases a (rorN a c) (rorC a) c e3.out
      clear e3
      generalize hc : rorC a = d at hr e1 ⊢
      clear hc
      cases c <;> cases d <;> simp only [digi, Bool.false_eq_true, if_false, if_true, Int.add_zero] at hr
      all_goals
        go_wp2_with fail
        refine (impl_rol _ _ _ n0 n1).mono ?_; rintro e w4 ⟨rfl, b4⟩
        rw [e1.out, e2.out]
        have B4 := Lib.hid (below_then B3.out b4)
        clear b4
        go_wp2_with fail
        refine (isByte_yes _ _ n0 n1).mono ?_; rintro e w' ⟨rfl, rfl⟩
        go_wp2_with fail
        go_ret
        exact ⟨rfl, B4.out⟩
  · go_enter Try.func7, Try.ntmps7
    go_wp2_with fail
    go_ret
    exact ⟨rfl, Below.refl _ _⟩
end Go.Proofs.Ytickidnbcdoblaa
