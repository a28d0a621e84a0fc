/- Sound channels as plain data: samples, the channel behind them, skipping, shares. -/
import Derived.Test.YtfbpnneegenhgaaGA
namespace Go.Proofs.Ytfbpnneegenhgaa
open Go.ChangeShapes Go.WideShapes Go.ChangeAt Go.RowKit
set_option linter.unusedVariables false

theorem betQ_iff {a l h : Int} : betB a l h = true ↔ l ≤ a ∧ a ≤ h := by simp [betB]
/-- A channel: length of a step, high steps, volume, the step, what is left of it. -/
structure Voc where
  l : Int
  h : Int
  v : Int
  s : Int
  e : Int
def Voc.zero : Voc := ⟨0, 0, 0, 0, 0⟩
def vocB (x : Voc) : Bool := betB x.l 1 100 && betB x.h 0 8 && betB x.v 0 15 && betB x.s 0 7 && betB x.e 1 x.l
theorem vocB_iff {x : Voc} : vocB x = true ↔ (1 ≤ x.l ∧ x.l ≤ 100) ∧ (0 ≤ x.h ∧ x.h ≤ 8) ∧ (0 ≤ x.v ∧ x.v ≤ 15) ∧ (0 ≤ x.s ∧ x.s ≤ 7) ∧ 1 ≤ x.e ∧ x.e ≤ x.l := by
  unfold vocB; simp only [Bool.and_eq_true, betQ_iff, and_assoc]
/-- The sample, the channel behind it. -/
def lev (x : Voc) : Int := if x.s < x.h then x.v else 0
def nxt (x : Voc) : Voc := if x.e - 1 = 0 then ⟨x.l, x.h, x.v, (x.s + 1) % 8, x.l⟩ else ⟨x.l, x.h, x.v, x.s, x.e - 1⟩
def adv (x : Voc) : Nat → Voc
  | 0 => x
  | k + 1 => nxt (adv x k)
theorem adv_zero (x : Voc) : adv x 0 = x := rfl
theorem adv_succ (x : Voc) (k : Nat) : adv x (k + 1) = nxt (adv x k) := rfl
def smp (x : Voc) (n : Nat) : List Int := (List.range n).map fun k => lev (adv x k)
theorem smp_len (x : Voc) (n : Nat) : (smp x n).length = n := by simp [smp]
theorem smp_succ (x : Voc) (n : Nat) : smp x (n + 1) = smp x n ++ [lev (adv x n)] := by unfold smp; rw [List.range_succ, List.map_append]; rfl
theorem smp_zero (x : Voc) : smp x 0 = [] := rfl
theorem smp_at (x : Voc) {n k : Nat} (h : k < n) : (smp x n).getD k 0 = lev (adv x k) := by
  unfold smp
  rw [List.getD_eq_getElem?_getD, List.getElem?_map, List.getElem?_range h]
  rfl
def playB (x : Voc) (n : Int) : Bool := vocB x && betB n 0 400
def playL (x : Voc) (n : Int) : List Int := if playB x n = true then smp x n.toNat else []
def playV (x : Voc) (n : Int) : Voc := if playB x n = true then adv x n.toNat else .zero
theorem play_yes {x : Voc} {n : Int} (h : playB x n = true) : playL x n = smp x n.toNat ∧ playV x n = adv x n.toNat := ⟨if_pos h, if_pos h⟩
theorem play_no {x : Voc} {n : Int} (h : playB x n = false) : playL x n = [] ∧ playV x n = .zero := ⟨if_neg (by rw [h]; simp), if_neg (by rw [h]; simp)⟩
def skipF (x : Voc) (n : Int) : Voc := if n < x.e then ⟨x.l, x.h, x.v, x.s, x.e - n⟩ else ⟨x.l, x.h, x.v, (x.s + 1 + (n - x.e) / x.l) % 8, x.l - (n - x.e) % x.l⟩
def skipT (x : Voc) (n : Int) : Voc := if (vocB x && betB n 0 100000) = true then skipF x n else .zero
theorem nxt_ok {x : Voc} (h : vocB x = true) : vocB (nxt x) = true := by
  obtain ⟨h1, h2, h3, h4, h5⟩ := vocB_iff.1 h
  rw [vocB_iff]
  unfold nxt
  split
  · exact ⟨h1, h2, h3, by simp only; omega, by simp only; omega⟩
  · exact ⟨h1, h2, h3, h4, by simp only; omega⟩
theorem nxt_same (x : Voc) : (nxt x).l = x.l ∧ (nxt x).h = x.h ∧ (nxt x).v = x.v := by unfold nxt; split <;> exact ⟨rfl, rfl, rfl⟩
theorem adv_ok {x : Voc} (h : vocB x = true) : ∀ k, vocB (adv x k) = true
  | 0 => h
  | k + 1 => nxt_ok (adv_ok h k)
theorem adv_same (x : Voc) : ∀ k, (adv x k).l = x.l ∧ (adv x k).h = x.h ∧ (adv x k).v = x.v
  | 0 => ⟨rfl, rfl, rfl⟩
  | k + 1 => by
    obtain ⟨h1, h2, h3⟩ := adv_same x k
    obtain ⟨g1, g2, g3⟩ := nxt_same (adv x k)
    exact ⟨g1.trans h1, g2.trans h2, g3.trans h3⟩
theorem adv_add (x : Voc) (a : Nat) : ∀ b, adv x (a + b) = adv (adv x a) b
  | 0 => rfl
  | b + 1 => by rw [← Nat.add_assoc, adv_succ, adv_add x a b]; rfl
theorem smp_add (x : Voc) (a b : Nat) : smp x (a + b) = smp x a ++ smp (adv x a) b := by
  induction b with
  | zero => rw [Nat.add_zero, smp_zero, List.append_nil]
  | succ b ih => rw [← Nat.add_assoc, smp_succ, ih, smp_succ, List.append_assoc, adv_add]
theorem div_succ {r l : Int} (hl : 0 < l) : (r % l = l - 1 → (r + 1) / l = r / l + 1 ∧ (r + 1) % l = 0) ∧ (r % l ≠ l - 1 → (r + 1) / l = r / l ∧ (r + 1) % l = r % l + 1) := by
  have h1 := Int.emod_add_mul_ediv r l
  have h2 := Int.emod_nonneg r (show l ≠ 0 by omega)
  have h3 := Int.emod_lt_of_pos r hl
  constructor
  · intro h
    refine (Int.ediv_emod_unique hl).2 ⟨?_, by omega, by omega⟩
    rw [Int.mul_add, Int.mul_one]
    omega
  · intro h
    exact (Int.ediv_emod_unique hl).2 ⟨by omega, by omega, by omega⟩
/-- Skipping is playing. -/
theorem skip_adv {x : Voc} (h : vocB x = true) : ∀ k : Nat, skipF x k = adv x k
  | 0 => by
    obtain ⟨h1, h2, h3, h4, h5⟩ := vocB_iff.1 h
    unfold skipF
    rw [if_pos (by omega)]
    show (⟨x.l, x.h, x.v, x.s, x.e - 0⟩ : Voc) = x
    rw [Int.sub_zero]
  | k + 1 => by
    obtain ⟨h1, h2, h3, h4, h5⟩ := vocB_iff.1 h
    rw [adv_succ, ← skip_adv h k]
    unfold skipF
    by_cases c1 : ((k + 1 : Nat) : Int) < x.e
    · rw [if_pos c1, if_pos (by omega)]
      unfold nxt
      rw [if_neg (by simp only; omega)]
      simp only
      rw [show x.e - ((k + 1 : Nat) : Int) = x.e - (k : Int) - 1 by omega]
    · rw [if_neg c1]
      by_cases c2 : (k : Int) < x.e
      · rw [if_pos c2]
        unfold nxt
        rw [if_pos (by simp only; omega)]
        simp only
        rw [show ((k + 1 : Nat) : Int) - x.e = 0 by omega, Int.zero_ediv, Int.zero_emod, Int.sub_zero, Int.add_zero]
      · rw [if_neg c2]
        have hd := div_succ (r := (k : Int) - x.e) (l := x.l) (by omega)
        have hlt := Int.emod_lt_of_pos ((k : Int) - x.e) (show 0 < x.l by omega)
        rw [show ((k + 1 : Nat) : Int) - x.e = (k : Int) - x.e + 1 by omega]
        unfold nxt
        by_cases c3 : ((k : Int) - x.e) % x.l = x.l - 1
        · rw [(hd.1 c3).1, (hd.1 c3).2, if_pos (by simp only; omega)]
          simp only
          rw [Int.sub_zero]
          congr 1
          omega
        · rw [(hd.2 c3).1, (hd.2 c3).2, if_neg (by simp only; omega)]
          simp only
          rw [show x.l - (((k : Int) - x.e) % x.l + 1) = x.l - ((k : Int) - x.e) % x.l - 1 by omega]
theorem skip_ok {x : Voc} (h : vocB x = true) {n : Int} (hn : 0 ≤ n) : vocB (skipF x n) = true := by
  obtain ⟨k, rfl⟩ := Int.eq_ofNat_of_zero_le hn
  rw [skip_adv h]
  exact adv_ok h k
theorem skip_add {x : Voc} (h : vocB x = true) {a b : Int} (ha : 0 ≤ a) (hb : 0 ≤ b) : skipF (skipF x a) b = skipF x (a + b) := by
  obtain ⟨m, rfl⟩ := Int.eq_ofNat_of_zero_le ha
  obtain ⟨k, rfl⟩ := Int.eq_ofNat_of_zero_le hb
  rw [skip_adv h, skip_adv (adv_ok h m), ← Int.natCast_add, skip_adv h, adv_add]
/-- After eight steps the channel is the same. -/
theorem adv_turn {x : Voc} (h : vocB x = true) {m : Nat} (hm : (m : Int) = 8 * x.l) : adv x m = x := by
  obtain ⟨h1, h2, h3, h4, h5⟩ := vocB_iff.1 h
  rw [← skip_adv h]
  unfold skipF
  rw [if_neg (by omega)]
  obtain ⟨d1, d2⟩ := (Int.ediv_emod_unique (a := (m : Int) - x.e) (b := x.l) (q := 7) (r := x.l - x.e) (by omega)).2 ⟨by omega, by omega, by omega⟩
  rw [d1, d2]
  obtain ⟨l, hh, v, s, e⟩ := x
  simp only at *
  congr 1 <;> omega
theorem lev_turn {x : Voc} (h : vocB x = true) {m k : Nat} (hm : (m : Int) = 8 * x.l) : lev (adv x (k + m)) = lev (adv x k) := by
  rw [adv_add, adv_turn (adv_ok h k) (by rw [(adv_same x k).1]; exact hm)]
theorem lev_two {x : Voc} (k : Nat) : lev (adv x k) = 0 ∨ lev (adv x k) = x.v := by
  unfold lev
  split
  · exact .inr (adv_same x k).2.2
  · exact .inl rfl
theorem lev_b {x : Voc} (h : vocB x = true) : 0 ≤ lev x ∧ lev x ≤ 15 := by
  obtain ⟨h1, h2, h3, h4, h5⟩ := vocB_iff.1 h
  unfold lev
  split <;> omega
/-- How many of the first samples are not 0. -/
def cntV (x : Voc) : Nat → Nat
  | 0 => 0
  | k + 1 => cntV x k + if lev (adv x k) > 0 then 1 else 0
theorem cntV_succ (x : Voc) (k : Nat) : cntV x (k + 1) = cntV x k + if lev (adv x k) > 0 then 1 else 0 := rfl
theorem cntV_le (x : Voc) : ∀ k, cntV x k ≤ k
  | 0 => Nat.le_refl _
  | k + 1 => by have := cntV_le x k; rw [cntV_succ]; split <;> omega
theorem cntV_nxt (x : Voc) : ∀ k, cntV (nxt x) k + (if lev x > 0 then 1 else 0) = cntV x k + if lev (adv x k) > 0 then 1 else 0
  | 0 => rfl
  | k + 1 => by
    have ih := cntV_nxt x k
    have e : adv (nxt x) k = adv x (k + 1) := by rw [show k + 1 = 1 + k by omega, adv_add]; rfl
    rw [cntV_succ, cntV_succ, e]
    omega
theorem cntV_turn {x : Voc} (h : vocB x = true) {m : Nat} (hm : (m : Int) = 8 * x.l) : ∀ j, cntV (adv x j) m = cntV x m
  | 0 => rfl
  | j + 1 => by
    have h1 := cntV_nxt (adv x j) m
    rw [adv_turn (adv_ok h j) (by rw [(adv_same x j).1]; exact hm)] at h1
    rw [adv_succ]
    have := cntV_turn h hm j
    omega
theorem cntV_start {l h v : Int} (h1 : 1 ≤ l ∧ l ≤ 100) (h2 : 0 ≤ h ∧ h ≤ 8) (h3 : 0 < v ∧ v ≤ 15) : ∀ k : Nat, (k : Int) ≤ 8 * l → (cntV ⟨l, h, v, 0, l⟩ k : Int) = if (k : Int) ≤ h * l then (k : Int) else h * l
  | 0, _ => by
    have := Int.mul_nonneg h2.1 (show 0 ≤ l by omega)
    rw [if_pos (by omega)]
    rfl
  | k + 1, hk => by
    have ih := cntV_start h1 h2 h3 k (by omega)
    have hv : vocB ⟨l, h, v, 0, l⟩ = true := vocB_iff.2 ⟨h1, h2, ⟨by simp only; omega, by simp only; omega⟩, ⟨by simp only; omega, by simp only; omega⟩, by simp only; omega, by simp only; omega⟩
    have hs : (adv ⟨l, h, v, 0, l⟩ k).s = (k : Int) / l := by
      rw [← skip_adv hv]
      unfold skipF
      by_cases c : (k : Int) < l
      · rw [if_pos c]
        exact (Int.ediv_eq_zero_of_lt (by omega) c).symm
      · rw [if_neg c]
        show (0 + 1 + ((k : Int) - l) / l) % 8 = (k : Int) / l
        have e : ((k : Int) - l) / l = (k : Int) / l - 1 := by
          have := Int.add_mul_ediv_right (k : Int) (-1) (show l ≠ 0 by omega)
          rw [show (k : Int) + -1 * l = (k : Int) - l by omega] at this
          omega
        have q1 : (k : Int) / l < 8 := Int.ediv_lt_of_lt_mul (by omega) (by omega)
        have q0 : 0 ≤ (k : Int) / l := Int.ediv_nonneg (by omega) (by omega)
        rw [e]
        omega
    have hl : lev (adv ⟨l, h, v, 0, l⟩ k) = if (k : Int) / l < h then v else 0 := by
      obtain ⟨g1, g2, g3⟩ := adv_same ⟨l, h, v, 0, l⟩ k
      unfold lev
      rw [hs, g2, g3]
    have hdiv : (k : Int) / l < h ↔ (k : Int) < h * l := by
      constructor
      · intro c
        exact Int.lt_mul_of_ediv_lt (by omega) c
      · intro c
        exact Int.ediv_lt_of_lt_mul (by omega) c
    rw [cntV_succ, hl]
    by_cases c : (k : Int) < h * l
    · rw [if_pos (hdiv.2 c), if_pos (show v > 0 from h3.1), if_pos (by omega)]
      rw [if_pos (by omega)] at ih
      omega
    · rw [if_neg (fun c2 => c (hdiv.1 c2)), if_neg (by omega), if_neg (by omega)]
      by_cases c2 : (k : Int) ≤ h * l
      · rw [if_pos c2] at ih
        omega
      · rw [if_neg c2] at ih
        omega
/-- In eight steps a channel has High times Length samples that are not 0. -/
theorem cntV_share {x : Voc} (h : vocB x = true) (hv : x.v ≠ 0) {m : Nat} (hm : (m : Int) = 8 * x.l) : (cntV x m : Int) = x.h * x.l := by
  obtain ⟨h1, h2, h3, h4, h5⟩ := vocB_iff.1 h
  have hj0 : 0 ≤ (7 - x.s) * x.l := Int.mul_nonneg (by omega) (by omega)
  obtain ⟨j, hj⟩ := Int.eq_ofNat_of_zero_le (show 0 ≤ (7 - x.s) * x.l + x.e by omega)
  have ha : adv x j = ⟨x.l, x.h, x.v, 0, x.l⟩ := by
    rw [← skip_adv h, ← hj]
    unfold skipF
    rw [if_neg (by omega), show (7 - x.s) * x.l + x.e - x.e = (7 - x.s) * x.l by omega, Int.mul_ediv_cancel _ (by omega), Int.mul_emod_left]
    congr 1 <;> omega
  rw [← cntV_turn h hm j, ha, cntV_start h1 h2 (by omega) m (by omega)]
  have : x.h * x.l ≤ 8 * x.l := Int.mul_le_mul_of_nonneg_right h2.2 (by omega)
  split <;> omega
end Go.Proofs.Ytfbpnneegenhgaa
