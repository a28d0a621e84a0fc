/- Drawn laws of chapter 15, walked: the next state, linearity, distances. -/
import Derived.Test.YtkglocdmpfjafaaNoiX
import Derived.Test.YtkglocdmpfjafaaNoiJ
import Derived.Test.YtkglocdmpfjafaaGA
import Derived.Test.YtkglocdmpfjafaaRowIn
namespace Go.Proofs.Ytkglocdmpfjafaa
open Go.ChangeShapes Go.WideShapes Go.ChangeAt Go.RowKit
set_option linter.unusedVariables false

set_option maxRecDepth 100000 in
set_option maxHeartbeats 8000000 in
theorem walk_FnNextNoise (a0 : Option Addr) (len0 cap0 : Nat) (z0 : List Int) (w : World) (w0 : IsRow .u8 w a0 len0 cap0 z0) :
    Calls Try.prog 3 #[.slice a0 len0 cap0] w fun e w' => e = .returned (.bool true) ∧ Below w.heap.size w w' := by
  have H := Lib.hid w0
  have hl := isRow_len w0
  clear w0
  by_cases hs : len0 ≤ 1048576
  · go_enter Try.func3, Try.ntmps3
    go_wp2_with fail
    refine (draw_NextNoise _ _ _ _ _ H.out).mono ?_; rintro e w1 ⟨s, rfl, hz, bl⟩
    have B1 := Lib.hid bl
    have HS := Lib.hid hz
    clear bl hz hl H hs
    obtain ⟨V, hV⟩ : ∃ V, nxT s = V := ⟨_, rfl⟩
    have HV := Lib.hid hV
    go_wp2_with fail
    refine (im_next s _).mono ?_; rw [HV.out]; rintro e w' ⟨rfl, rfl⟩
    go_wp2_with fail
    refine (spec_next s _).mono ?_; rw [HV.out]; rintro e w' ⟨rfl, rfl⟩
    cases hb : betB s 1 32767
    · obtain rfl : V = 0 := by rw [← hV, nxT_no hb]
      have hn : ¬ (1 ≤ s ∧ s ≤ 32767) := fun h => by rw [betB_is.2 h] at hb; cases hb
      have hs2 : s = 0 ∨ s = 32768 := by have := HS.out; omega
      clear hV HV hb hn HS
      rcases hs2 with rfl | rfl
      all_goals
        go_wp2_with fail
        refine (alive_any _).mono ?_; rintro e w' ⟨rfl, rfl⟩
        go_wp2_with fail
        go_ret
        exact ⟨rfl, B1.out⟩
    · have h1 := betB_is.1 hb
      obtain ⟨S, rfl⟩ := Int.eq_ofNat_of_zero_le (show 0 ≤ s by omega)
      obtain rfl : V = (nx S : Int) := by rw [← hV, nxT_at (by omega) (by omega)]
      have HP := nx_prev (s := S) (by omega)
      have HN := nx_state (s := S) (by omega) (by omega)
      have s1 : 1 ≤ (S : Int) := by omega
      have s2 : (S : Int) ≤ 32767 := by omega
      clear hV HV hb h1 HS
      generalize nx S = N at HP HN ⊢
      have n1 : 1 ≤ (N : Int) := by omega
      have n2 : (N : Int) ≤ 32767 := by omega
      obtain ⟨A, hA⟩ : ∃ A, (2 * (N : Int)).tmod 32768 = A := ⟨_, rfl⟩
      obtain ⟨D, hD⟩ : ∃ D, (N : Int) / 16384 = D := ⟨_, rfl⟩
      obtain ⟨X, hX⟩ : ∃ X, bits .xor .i64 D (N : Int) = X := ⟨_, rfl⟩
      obtain ⟨R, hR⟩ : ∃ R, X.tmod 2 = R := ⟨_, rfl⟩
      have hE : A + R = (S : Int) := by
        rw [← hA, ← hR, ← hX, ← hD, show (N : Int) / 16384 = ((N / 16384 : Nat) : Int) by omega, xor_i64_nat _ _ (by omega) (by omega), Int.tmod_eq_emod_of_nonneg (by omega), Int.tmod_eq_emod_of_nonneg (by omega)]
        omega
      have A0 : 0 ≤ A := by rw [← hA, Int.tmod_eq_emod_of_nonneg (by omega)]; omega
      have A1 : A ≤ 32767 := by rw [← hA, Int.tmod_eq_emod_of_nonneg (by omega)]; omega
      clear HP HN
      go_wp2_with fail
      go_ret
      exact ⟨rfl, B1.out⟩
  · have hs' : 1048576 < len0 := by omega
    go_enter Try.func3, Try.ntmps3
    go_wp2_with fail
    go_ret
    exact ⟨rfl, Below.refl _ _⟩
theorem nxT_pos {x : Int} (h : betB x 1 32767 = true) : 1 ≤ nxT x := by
  have h1 := betB_is.1 h
  obtain ⟨S, rfl⟩ := Int.eq_ofNat_of_zero_le (show 0 ≤ x by omega)
  rw [nxT_at (by omega) (by omega)]
  have := nx_state (s := S) (by omega) (by omega)
  omega
theorem xor_pos {a b : Nat} (h : a ≠ b) : 1 ≤ a ^^^ b := by
  by_cases e : a ^^^ b = 0
  · have k : a ^^^ b ^^^ b = a := by rw [Nat.xor_assoc, Nat.xor_self, Nat.xor_zero]
    rw [e, Nat.zero_xor] at k
    exact absurd k.symm h
  · omega
set_option maxRecDepth 100000 in
set_option maxHeartbeats 8000000 in
theorem walk_FnNoiseLinear (a0 : Option Addr) (len0 cap0 : Nat) (z0 : List Int) (w : World) (w0 : IsRow .u8 w a0 len0 cap0 z0) :
    Calls Try.prog 6 #[.slice a0 len0 cap0] w fun e w' => e = .returned (.bool true) ∧ Below w.heap.size w w' := by
  have H := Lib.hid w0
  have hl := isRow_len w0
  clear w0
  by_cases hs : len0 ≤ 1048576
  · go_enter Try.func6, Try.ntmps6
    go_wp2_with fail
    refine (draw_NoiseDistance _ _ _ _ _ H.out).mono ?_; rintro e w1 ⟨s, t, rfl, hz, hy, bl⟩
    have B1 := Lib.hid bl
    clear bl hl H hs hz hy
    obtain ⟨V, hV⟩ : ∃ V, nxT s = V := ⟨_, rfl⟩
    obtain ⟨U, hU⟩ : ∃ U, nxT t = U := ⟨_, rfl⟩
    have HV := Lib.hid hV
    have HU := Lib.hid hU
    clear hV hU
    go_wp2_with fail
    refine (im_next s _).mono ?_; rw [HV.out]; rintro e w' ⟨rfl, rfl⟩
    go_wp2_with fail
    refine (im_next t _).mono ?_; rw [HU.out]; rintro e w' ⟨rfl, rfl⟩
    go_wp2_with fail
    refine (spec_next s _).mono ?_; rw [HV.out]; rintro e w' ⟨rfl, rfl⟩
    cases hb : betB s 1 32767
    · obtain rfl : V = 0 := by rw [← HV.out, nxT_no hb]
      clear HV HU hb
      go_wp2_with fail
      refine (alive_any _).mono ?_; rintro e w' ⟨rfl, rfl⟩
      go_wp2_with fail
      go_ret
      exact ⟨rfl, B1.out⟩
    have v1 : 1 ≤ V := by rw [← HV.out]; exact nxT_pos hb
    have hv0 : (V == 0) = false := by simp; omega
    cases hc : betB t 1 32767
    · obtain rfl : U = 0 := by rw [← HU.out, nxT_no hc]
      clear HV HU hb hc
      go_wp2_with fail
      refine (alive_any _).mono ?_; rintro e w' ⟨rfl, rfl⟩
      go_wp2_with fail
      go_ret
      exact ⟨rfl, B1.out⟩
    have u1 : 1 ≤ U := by rw [← HU.out]; exact nxT_pos hc
    have hu0 : (U == 0) = false := by simp; omega
    by_cases he : s = t
    · subst he
      clear HV HU hb hc
      go_wp2_with fail
      refine (alive_any _).mono ?_; rintro e w' ⟨rfl, rfl⟩
      go_wp2_with fail
      go_ret
      exact ⟨rfl, B1.out⟩
    have h1 := betB_is.1 hb
    have h2 := betB_is.1 hc
    obtain ⟨S, rfl⟩ := Int.eq_ofNat_of_zero_le (show 0 ≤ s by omega)
    obtain ⟨T, rfl⟩ := Int.eq_ofNat_of_zero_le (show 0 ≤ t by omega)
    have hne : S ≠ T := fun h => he (by rw [h])
    have hxp := xor_pos hne
    have hxl := xor_le (a := S) (b := T) (by omega) (by omega)
    have HE : Hid (nxT (bits .xor .i64 (S : Int) (T : Int)) = bits .xor .i64 V U) := Lib.hid (by
      have l1 := nx_le (show S ≤ 32767 by omega)
      have l2 := nx_le (show T ≤ 32767 by omega)
      rw [← HV.out, ← HU.out, nxT_at (by omega) (by omega), nxT_at (by omega) (by omega), xor_i64_nat _ _ (by omega) (by omega), xor_i64_nat _ _ (by omega) (by omega), nxT_at hxp hxl, nx_xor (by omega) (by omega)])
    have hst : ((S : Int) == (T : Int)) = false := by simp; omega
    clear HV HU hb hc h1 h2 hne hxp hxl he
    generalize (S : Int) = s at HE hst ⊢
    generalize (T : Int) = t at HE hst ⊢
    go_wp2_with fail
    refine (im_next _ _).mono ?_; rw [HE.out]; rintro e w' ⟨rfl, rfl⟩
    go_wp2_with fail
    go_ret
    exact ⟨rfl, B1.out⟩
  · have hs' : 1048576 < len0 := by omega
    go_enter Try.func6, Try.ntmps6
    go_wp2_with fail
    go_ret
    exact ⟨rfl, Below.refl _ _⟩
set_option maxRecDepth 100000 in
set_option maxHeartbeats 8000000 in
theorem walk_FnNoiseDistance (a0 : Option Addr) (len0 cap0 : Nat) (z0 : List Int) (w : World) (w0 : IsRow .u8 w a0 len0 cap0 z0) :
    Calls Try.prog 5 #[.slice a0 len0 cap0] w fun e w' => e = .returned (.bool true) ∧ Below w.heap.size w w' := by
  have H := Lib.hid w0
  have hl := isRow_len w0
  clear w0
  by_cases hs : len0 ≤ 1048576
  · go_enter Try.func5, Try.ntmps5
    go_wp2_with fail
    refine (draw_NoiseDistance _ _ _ _ _ H.out).mono ?_; rintro e w1 ⟨s, t, rfl, hz, hy, bl⟩
    have B1 := Lib.hid bl
    clear bl hl H hs hz hy
    obtain ⟨V, hV⟩ : ∃ V, dsT s t = V := ⟨_, rfl⟩
    have HV := Lib.hid hV
    clear hV
    go_wp2_with fail
    refine (im_dist s t _).mono ?_; rw [HV.out]; rintro e w2 ⟨rfl, bl⟩
    have B2 := Lib.hid (below_then B1.out bl)
    clear B1 bl
    go_wp2_with fail
    refine (spec_dist s t _).mono ?_; rw [HV.out]; rintro e w' ⟨rfl, rfl⟩
    cases hb : dsB s t
    · obtain rfl : V = -1 := by rw [← HV.out, dsT_no hb]
      clear HV hb
      go_wp2_with fail
      refine (alive_any _).mono ?_; rintro e w' ⟨rfl, rfl⟩
      go_wp2_with fail
      go_ret
      exact ⟨rfl, B2.out⟩
    unfold dsB at hb
    rw [Bool.and_eq_true] at hb
    have h1 := betB_is.1 hb.1
    have h2 := betB_is.1 hb.2
    obtain ⟨a, rfl⟩ := Int.eq_ofNat_of_zero_le (show 0 ≤ s by omega)
    obtain ⟨b, rfl⟩ := Int.eq_ofNat_of_zero_le (show 0 ≤ t by omega)
    have ha : 1 ≤ a ∧ a ≤ 32767 := by omega
    have hb' : 1 ≤ b ∧ b ≤ 32767 := by omega
    obtain ⟨d, hd2, hd⟩ := dist_ex ha hb'
    obtain rfl : V = (d : Int) := by rw [← HV.out, dsT_at ha hb' hd hd2]
    clear HV hb h1 h2
    cases d with
    | zero =>
      obtain rfl : a = b := hd.1
      clear hd hd2 ha hb'
      go_wp2_with fail
      go_ret
      exact ⟨rfl, B2.out⟩
    | succ d =>
      have hne : a ≠ b := fun h => hd.2 0 (by omega) h
      obtain ⟨m, hm2, hm⟩ := dist_ex hb' ha
      have HM := Lib.hid (dsT_at hb' ha hm hm2)
      have HX := Lib.hid (nxT_at ha.1 ha.2)
      have HD := Lib.hid (dsT_at (nx_state ha.1 ha.2) hb' hd.step (by omega))
      have HS := Lib.hid (dist_sum ha hb' hne hd hm)
      have hsum : ((d + 1 : Nat) : Int) + (m : Int) = 32767 := by have := HS.out; omega
      have hpre : ((d + 1 : Nat) : Int) - 1 = (d : Int) := by omega
      obtain ⟨n, hn⟩ : ∃ n : Int, ((d + 1 : Nat) : Int) = n := ⟨_, rfl⟩
      have n1 : 1 ≤ n := by omega
      have n2 : n ≤ 32767 := by omega
      have hn0 : (n == 0) = false := by simp; omega
      rw [hn] at hsum hpre ⊢
      clear hd hd2 ha hb' hne hm hm2 HS hn
      generalize nx a = q at HX HD
      go_wp2_with fail
      refine (im_dist _ _ _).mono ?_; rw [HM.out]; rintro e w3 ⟨rfl, bl⟩
      have B3 := Lib.hid (below_then B2.out bl)
      clear B2 bl
      go_wp2_with fail
      refine (im_next _ _).mono ?_; rw [HX.out]; rintro e w' ⟨rfl, rfl⟩
      go_wp2_with fail
      refine (im_dist _ _ _).mono ?_; rw [HD.out]; rintro e w4 ⟨rfl, bl⟩
      have B4 := Lib.hid (below_then B3.out bl)
      clear B3 bl
      go_wp2_with fail
      go_ret
      exact ⟨rfl, B4.out⟩
  · have hs' : 1048576 < len0 := by omega
    go_enter Try.func5, Try.ntmps5
    go_wp2_with fail
    go_ret
    exact ⟨rfl, Below.refl _ _⟩
end Go.Proofs.Ytkglocdmpfjafaa
