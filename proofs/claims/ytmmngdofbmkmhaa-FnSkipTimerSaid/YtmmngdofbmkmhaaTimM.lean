/- Cycles skipped in parts; a timer's rate; ticks. -/
import Derived.Test.YtmmngdofbmkmhaaTimB
namespace Go.Proofs.Ytmmngdofbmkmhaa
open Go.ChangeShapes Go.WideShapes Go.ChangeAt Go.RowKit
set_option linter.unusedVariables false

theorem mod_add (q p a : Int) (h0 : 0 ≤ a) (h1 : a < p) : (q * p + a) % p = a ∧ (q * p + a) / p = q := by
  have hp : p ≠ 0 := by omega
  constructor
  · rw [Int.add_comm, Int.add_mul_emod_self_right, Int.emod_eq_of_lt h0 h1]
  · rw [Int.add_comm, Int.add_mul_ediv_right _ _ hp, Int.ediv_eq_zero_of_lt h0 h1]; omega
theorem mod_off (x p : Int) (hp : 0 < p) : (x - p) % p = x % p ∧ (x - p) / p = x / p - 1 := by
  have e : x - p = x + (-1) * p := by omega
  rw [e]
  exact ⟨Int.add_mul_emod_self_right .., by rw [Int.add_mul_ediv_right _ _ (by omega)]; omega⟩
theorem mod_plus (q p x : Int) (hp : 0 < p) : (q * p + x) % p = x % p ∧ (q * p + x) / p = q + x / p := by
  rw [Int.add_comm]
  exact ⟨Int.add_mul_emod_self_right .., by rw [Int.add_mul_ediv_right _ _ (by omega)]; omega⟩
/-- Skipping in two parts is skipping their sum. -/
theorem sk_add (l r f h m : Int) (hl : 0 ≤ l) (hr : 0 ≤ r) (hh : 0 ≤ h) (hm : 0 ≤ m) : skL (skL l r h) r m = skL l r (h + m) ∧ skF (skL l r h) r (skF l r f h) m = skF l r f (h + m) := by
  by_cases h1 : h ≤ l
  · have e1 : skL l r h = l - h := if_pos h1
    have e2 : skF l r f h = f := if_pos h1
    rw [e1, e2]
    unfold skL skF
    by_cases h2 : m ≤ l - h
    · rw [if_pos h2, if_pos h2, if_pos (by omega), if_pos (by omega)]
      exact ⟨by omega, rfl⟩
    · rw [if_neg h2, if_neg h2, if_neg (by omega), if_neg (by omega), show m - (l - h) - 1 = h + m - l - 1 by omega]
      exact ⟨rfl, rfl⟩
  · have e1 : skL l r h = r - (h - l - 1) % (r + 1) := if_neg h1
    have e2 : skF l r f h = f + 1 + (h - l - 1) / (r + 1) := if_neg h1
    rw [e1, e2]
    have hp : 0 < r + 1 := by omega
    have hd := Int.mul_ediv_add_emod (h - l - 1) (r + 1)
    have a0 := Int.emod_nonneg (h - l - 1) (show r + 1 ≠ 0 by omega)
    have a1 := Int.emod_lt_of_pos (h - l - 1) hp
    generalize (h - l - 1) % (r + 1) = a at hd a0 a1 ⊢
    generalize (h - l - 1) / (r + 1) = q at hd ⊢
    have hx : h + m - l - 1 = q * (r + 1) + (a + m) := by rw [Int.mul_comm q]; omega
    unfold skL skF
    rw [if_neg (show ¬ h + m ≤ l by omega), if_neg (show ¬ h + m ≤ l by omega), hx]
    by_cases h2 : m ≤ r - a
    · obtain ⟨g1, g2⟩ := mod_add q (r + 1) (a + m) (by omega) (by omega)
      rw [if_pos h2, if_pos h2, g1, g2]
      exact ⟨by omega, rfl⟩
    · obtain ⟨g1, g2⟩ := mod_plus q (r + 1) (a + m) hp
      obtain ⟨g3, g4⟩ := mod_off (a + m) (r + 1) hp
      rw [if_neg h2, if_neg h2, g1, g2, show m - (r - a) - 1 = a + m - (r + 1) by omega, g3, g4]
      exact ⟨rfl, by omega⟩
theorem sk_bound (l r f n : Int) (hl : 0 ≤ l) (hl2 : l ≤ 1000) (hr : 0 ≤ r) (hr2 : r ≤ 1000) (hf : 0 ≤ f) (hf2 : f ≤ 8) (hn : 0 ≤ n) (hn2 : n ≤ 100000) : timB (skL l r n) r (skF l r f n) = true := by
  rw [timB_iff]
  unfold skL skF
  by_cases h : n ≤ l
  · rw [if_pos h, if_pos h]; omega
  · rw [if_neg h, if_neg h]
    have a0 := Int.emod_nonneg (n - l - 1) (show r + 1 ≠ 0 by omega)
    have a1 := Int.emod_lt_of_pos (n - l - 1) (show 0 < r + 1 by omega)
    have b0 := Int.ediv_nonneg (show 0 ≤ n - l - 1 by omega) (show 0 ≤ r + 1 by omega)
    have b1 := Int.ediv_le_self (r + 1) (show 0 ≤ n - l - 1 by omega)
    omega
theorem sk_zero (l r f : Int) (hl : 0 ≤ l) : skL l r 0 = l ∧ skF l r f 0 = f := by
  unfold skL skF
  rw [if_pos hl, if_pos hl]
  exact ⟨by omega, rfl⟩
theorem sk_ok {l r f n : Int} (h : timB l r f = true) (h0 : 0 ≤ n) (h1 : n ≤ 100000) : sL l r f n = skL l r n ∧ sR l r f n = r ∧ sF l r f n = skF l r f n := by
  have e : okS l r f n = true := by unfold okS; rw [h, betB_iff.2 ⟨h0, h1⟩]; rfl
  unfold sL sR sF
  rw [if_pos e, if_pos e, if_pos e]
  exact ⟨rfl, rfl, rfl⟩
theorem sk_bad {l r f n : Int} (h : timB l r f = false ∨ n < 0 ∨ 100000 < n) : sL l r f n = 0 ∧ sR l r f n = 0 ∧ sF l r f n = 0 := by
  have e : ¬ okS l r f n = true := by
    intro k
    unfold okS at k
    simp only [Bool.and_eq_true] at k
    obtain ⟨k1, k2⟩ := k
    have := betB_iff.1 k2
    rcases h with h | h | h
    · rw [k1] at h; cases h
    · omega
    · omega
  unfold sL sR sF
  rw [if_neg e, if_neg e, if_neg e]
  exact ⟨rfl, rfl, rfl⟩
theorem tick_zero {r f : Int} : skL 0 r 1 = r ∧ skF 0 r f 1 = f + 1 := by
  unfold skL skF
  rw [if_neg (by omega), if_neg (by omega)]
  simp
theorem tick_pos {l r f : Int} (h : 0 < l) : skL l r 1 = l - 1 ∧ skF l r f 1 = f := by
  unfold skL skF
  rw [if_pos (by omega), if_pos (by omega)]
  exact ⟨rfl, rfl⟩
theorem fire_before (l r f : Int) : skF l r f l = f := by unfold skF; rw [if_pos (by omega)]
theorem fire_at (l r f : Int) : skF l r f (l + 1) = f + 1 := by
  unfold skF
  rw [if_neg (by omega), show l + 1 - l - 1 = 0 by omega]
  simp
/-- In n times Reload + 1 cycles a timer fires n times. -/
theorem sk_rate (l r f n : Int) (hl : 0 ≤ l) (hr : l ≤ r) (hn : 0 ≤ n) : skL l r (n * (r + 1)) = l ∧ skF l r f (n * (r + 1)) = f + n := by
  by_cases h : n = 0
  · subst h
    rw [Int.zero_mul]
    obtain ⟨e1, e2⟩ := sk_zero l r f hl
    rw [e1, e2]
    exact ⟨rfl, by omega⟩
  · have hx : n * (r + 1) - l - 1 = (n - 1) * (r + 1) + (r - l) := by rw [Int.sub_mul]; omega
    have hb : r + 1 ≤ n * (r + 1) := by
      have := Int.mul_le_mul_of_nonneg_right (show 1 ≤ n by omega) (show 0 ≤ r + 1 by omega)
      omega
    obtain ⟨g1, g2⟩ := mod_add (n - 1) (r + 1) (r - l) (by omega) (by omega)
    unfold skL skF
    rw [if_neg (by omega), if_neg (by omega), hx, g1, g2]
    exact ⟨by omega, by omega⟩
theorem timB_left (r f : Int) : timB (-1) r f = false := by simp [timB, betB]
theorem timB_reload (l f : Int) : timB l 1001 f = false := by simp [timB, betB]
/-- What skipping returns, its numbers known. -/
theorem skip_at {fn : FuncId} {l r f n x0 x1 x2 : Int} {args : Array Value} {w : World} (h : Calls Try.prog fn args w (Skipped l r f n w)) (e : sL l r f n = x0 ∧ sR l r f n = x1 ∧ sF l r f n = x2) :
    Calls Try.prog fn args w fun e w' => e = .returned (.agg #[.int .i64 x0, .int .i64 x1, .int .i64 x2]) ∧ Below w.heap.size w w' := by
  obtain ⟨rfl, rfl, rfl⟩ := e
  exact h
theorem field2 (x y z : Value) (w' : World) : (Instr.field 24 (.agg #[x, y, z]) 2).run Try.prog w' = .ok z w' := rfl
end Go.Proofs.Ytmmngdofbmkmhaa
