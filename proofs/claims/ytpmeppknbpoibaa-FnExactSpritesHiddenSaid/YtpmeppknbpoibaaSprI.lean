/- The program's SpritesOnLine and SpritesHidden. -/
import Derived.Test.YtpmeppknbpoibaaSprH
namespace Go.Proofs.Ytpmeppknbpoibaa
open Go.ChangeShapes Go.WideShapes Go.ChangeAt Go.RowKit
set_option linter.unusedVariables false

theorem nums_take (l : List Nat) (k : Nat) : nums (l.take k) = (nums l).take k := by unfold nums; rw [List.map_take]
theorem onF_ints {w : World} {A : Option Addr} {n : Nat} {S : List Spr} {y : Int} {fp : List Nat} (h : Ints w A n (nums (allF S y)) fp) : Ints w A (min n 4) (nums (onF S y)) fp ∧ (onF S y).length = min n 4 := by
  have hl : (allF S y).length = n := by have := h.1; simpa [nums] using this
  have e : nums (onF S y) = (nums (allF S y)).take (min n 4) := by
    unfold onF
    rw [nums_take]
    by_cases h4 : n ≤ 4
    · rw [List.take_of_length_le (by have := h.1; omega), List.take_of_length_le (by have := h.1; omega)]
    · rw [show min n 4 = 4 by omega]
  refine ⟨by rw [e]; exact ints_take h _ (by omega) (by omega), ?_⟩
  unfold onF; rw [List.length_take, hl]; omega
set_option maxHeartbeats 4000000 in
theorem im_onLine (A : Option Addr) (n c : Nat) (S : List Spr) (fs : List Nat) (T : Option Addr) (m d : Nat) (zs : List Int) (ft : List Nat) (y : Int) (w : World) (hS : Sprs w A n S fs) (hT : Ints w T (64 * m) zs ft) (hn : n ≤ 1000000000) (hm : m ≤ 1000000000) :
    Calls Try.prog 18 #[.slice A n c, .slice T m d, .int .i64 y] w (Copied (nums (onT S m zs y)) (onT S m zs y).length w) := by
  have HS := Lib.hid hS
  have HT := Lib.hid hT
  have HL := Lib.hid hS.1
  clear hS hT
  obtain ⟨R, hR⟩ : ∃ R, onT S m zs y = R := ⟨_, rfl⟩
  have HR := Lib.hid hR
  rw [hR]
  clear hR
  go_enter Try.func18, Try.ntmps18
  go_wp2_with fail
  refine (im_isLine y _).mono ?_; rintro e w1 ⟨rfl, rfl⟩
  cases hy : betB y 0 15
  · have HE : Hid (R = []) := Lib.hid (by rw [← HR.out]; unfold onT; rw [hy]; simp)
    go_wp2_with fail
    go_ret
    rw [HE.out]
    exact ⟨none, 0, [], rfl, Nat.le_refl _, .nil _ _, .nil _ _, Below.refl _ _⟩
  go_wp2_with fail
  refine (im_sprValid A n c S fs T m d zs ft _ HS.out HT.out hn hm).mono ?_; rintro e w1 ⟨rfl, b1⟩
  have B1 := Lib.hid b1
  clear b1
  cases hv : sprB S m zs
  · have HE : Hid (R = []) := Lib.hid (by rw [← HR.out]; unfold onT; rw [hv]; simp)
    go_wp2_with fail
    go_ret
    rw [HE.out]
    exact ⟨none, 0, [], rfl, Nat.le_refl _, .nil _ _, .nil _ _, B1.out⟩
  have HE : Hid (R = onF S y) := Lib.hid (by rw [← HR.out]; unfold onT; rw [hv, hy]; rfl)
  have HY := Lib.hid (fun i (hi : i < n) => spr_y hv i (by rw [HL.out]; exact hi))
  clear hv hy
  go_wp2_with fail
  refine (im_cover A n c S fs y _ (HS.out.below B1.out) hn HY.out).mono ?_
  rintro e w2 ⟨A2, c2, f2, rfl, hc2, i2, n2, b2⟩
  have B2 := Lib.hid (below_then B1.out b2)
  have I2 := Lib.hid i2
  have N2 := Lib.hid (n2.mono B1.out.size)
  have L2 : Hid ((allF S y).length ≤ n) := Lib.hid (by have := onN_le S y S.length; rw [HL.out] at this; unfold allF; rw [HL.out]; exact this)
  clear b2 i2 n2
  obtain ⟨q, hq⟩ : ∃ q : Nat, (allF S y).length = q := ⟨_, rfl⟩
  rw [hq] at I2 hc2 L2 ⊢
  clear hq
  have q9 : q ≤ 1000000000 := by have := L2.out; omega
  go_wp2_with fail
  refine (im_shown A2 q c2 _ f2 _ I2.out hc2 q9).mono ?_
  rintro e w3 ⟨⟨c3, rfl, hc3⟩, rfl⟩
  go_wp2_with fail
  go_ret
  obtain ⟨i3, l3⟩ := onF_ints I2.out
  rw [HE.out]
  exact ⟨A2, c3, f2, by rw [l3]; rfl, by rw [l3]; exact hc3, by rw [l3]; exact i3, N2.out, B2.out⟩
set_option maxHeartbeats 4000000 in
theorem im_hidden (A : Option Addr) (n c : Nat) (S : List Spr) (fs : List Nat) (T : Option Addr) (m d : Nat) (zs : List Int) (ft : List Nat) (y : Int) (w : World) (hS : Sprs w A n S fs) (hT : Ints w T (64 * m) zs ft) (hn : n ≤ 1000000000) (hm : m ≤ 1000000000) :
    Calls Try.prog 21 #[.slice A n c, .slice T m d, .int .i64 y] w fun e w' => e = .returned (.int .i64 (hidT S m zs y)) ∧ Below w.heap.size w w' := by
  have HS := Lib.hid hS
  have HT := Lib.hid hT
  have HL := Lib.hid hS.1
  clear hS hT
  obtain ⟨R, hR⟩ : ∃ R, hidT S m zs y = R := ⟨_, rfl⟩
  have HR := Lib.hid hR
  rw [hR]
  clear hR
  go_enter Try.func21, Try.ntmps21
  go_wp2_with fail
  refine (im_isLine y _).mono ?_; rintro e w1 ⟨rfl, rfl⟩
  cases hy : betB y 0 15
  · have HE : Hid (R = -1) := Lib.hid (by rw [← HR.out]; unfold hidT; rw [hy]; simp)
    go_wp2_with fail
    go_ret
    exact ⟨by rw [HE.out]; rfl, Below.refl _ _⟩
  go_wp2_with fail
  refine (im_sprValid A n c S fs T m d zs ft _ HS.out HT.out hn hm).mono ?_; rintro e w1 ⟨rfl, b1⟩
  have B1 := Lib.hid b1
  clear b1
  cases hv : sprB S m zs
  · have HE : Hid (R = -1) := Lib.hid (by rw [← HR.out]; unfold hidT; rw [hv]; simp)
    go_wp2_with fail
    go_ret
    exact ⟨by rw [HE.out]; rfl, B1.out⟩
  have HE : Hid (R = hidF S y) := Lib.hid (by rw [← HR.out]; unfold hidT; rw [hv, hy]; rfl)
  have HY := Lib.hid (fun i (hi : i < n) => spr_y hv i (by rw [HL.out]; exact hi))
  clear hv hy
  go_wp2_with fail
  refine (im_cover A n c S fs y _ (HS.out.below B1.out) hn HY.out).mono ?_
  rintro e w2 ⟨A2, c2, f2, rfl, hc2, i2, n2, b2⟩
  have B2 := Lib.hid (below_then B1.out b2)
  have I2 := Lib.hid i2
  have L2 : Hid ((allF S y).length ≤ n) := Lib.hid (by have := onN_le S y S.length; rw [HL.out] at this; unfold allF; rw [HL.out]; exact this)
  have HF : Hid (R = (((allF S y).length - 4 : Nat) : Int)) := Lib.hid HE.out
  clear b2 i2 n2
  obtain ⟨q, hq⟩ : ∃ q : Nat, (allF S y).length = q := ⟨_, rfl⟩
  rw [hq] at I2 hc2 L2 HF ⊢
  clear hq
  have q9 : q ≤ 1000000000 := by have := L2.out; omega
  go_wp2_with fail
  refine (im_shown A2 q c2 _ f2 _ I2.out hc2 q9).mono ?_
  rintro e w3 ⟨⟨c3, rfl, hc3⟩, rfl⟩
  obtain ⟨r, hr⟩ : ∃ r : Nat, min q 4 = r := ⟨_, rfl⟩
  rw [hr]
  have hr1 : r ≤ q := by omega
  have HQ : Hid ((q : Int) - r = ((q - 4 : Nat) : Int)) := Lib.hid (by omega)
  clear hr hc3
  go_wp2_with fail
  go_ret
  exact ⟨by rw [HF.out, ← HQ.out]; rfl, B2.out⟩
end Go.Proofs.Ytpmeppknbpoibaa
