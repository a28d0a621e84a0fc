/- Changes in a line as plain data: three numbers a change, in one flat list. -/
import Derived.Test.YtddllcgbdgpkbaaFldM
namespace Go.Proofs.Ytddllcgbdgpkbaa
open Go.ChangeShapes Go.WideShapes Go.ChangeAt Go.RowKit
set_option linter.unusedVariables false

/-- The column and the shifts of change k. -/
def cC (L : List Int) (k : Nat) : Int := L.getD (3 * k) 0
def cX (L : List Int) (k : Nat) : Int := L.getD (3 * k + 1) 0
def cY (L : List Int) (k : Nat) : Int := L.getD (3 * k + 2) 0
/-- The test of change k, of the first k, of all n. -/
def chg1 (L : List Int) (k : Nat) : Bool := betB (cC L k) 0 31 && !(decide (0 < k) && decide (cC L (k - 1) > cC L k)) && betB (cX L k) 0 255 && betB (cY L k) 0 255
def chgK (L : List Int) : Nat → Bool
  | 0 => true
  | k + 1 => chgK L k && chg1 L k
def chgB (L : List Int) (n : Nat) : Bool := chgK L n && decide (n ≤ 8)
theorem chgK_step (L : List Int) (k : Nat) : chgK L (k + 1) = (chgK L k && chg1 L k) := rfl
theorem chgK_iff {L : List Int} : ∀ {n : Nat}, chgK L n = true ↔ ∀ k, k < n → chg1 L k = true
  | 0 => ⟨fun _ k hk => by omega, fun _ => rfl⟩
  | n + 1 => by
    rw [chgK_step, Bool.and_eq_true, chgK_iff]
    constructor
    · rintro ⟨h1, h2⟩ k hk
      by_cases h : k < n
      · exact h1 k h
      · obtain rfl : k = n := by omega
        exact h2
    · exact fun h => ⟨fun k hk => h k (by omega), h n (by omega)⟩
theorem chgK_no {L : List Int} {n k : Nat} (hk : k < n) (h : chg1 L k = false) : chgK L n = false := by
  cases e : chgK L n
  · rfl
  · rw [chgK_iff.1 e k hk] at h; cases h
theorem chg1_iff {L : List Int} {k : Nat} : chg1 L k = true ↔ (0 ≤ cC L k ∧ cC L k ≤ 31) ∧ (0 < k → cC L (k - 1) ≤ cC L k) ∧ (0 ≤ cX L k ∧ cX L k ≤ 255) ∧ (0 ≤ cY L k ∧ cY L k ≤ 255) := by
  unfold chg1
  simp only [Bool.and_eq_true, betB_iff, Bool.not_eq_true', Bool.and_eq_false_iff, decide_eq_false_iff_not]
  constructor
  · rintro ⟨⟨⟨h1, h2⟩, h3⟩, h4⟩
    exact ⟨h1, fun h => by rcases h2 with h2 | h2 <;> omega, h3, h4⟩
  · rintro ⟨h1, h2, h3, h4⟩
    refine ⟨⟨⟨h1, ?_⟩, h3⟩, h4⟩
    by_cases h : 0 < k
    · exact .inr (by have := h2 h; omega)
    · exact .inl h
/-- The background as it is with the shifts of the last of k changes. -/
def withF (F : Fld) (L : List Int) (k : Nat) : Fld := if k = 0 then F else ⟨F.w, F.xs, F.nt, F.zs, cX L (k - 1), cY L (k - 1)⟩
/-- Valid changes are in order. -/
theorem chg_asc {L : List Int} {n : Nat} (h : chgK L n = true) : ∀ {j k : Nat}, j ≤ k → k < n → cC L j ≤ cC L k := by
  intro j k hjk hk
  induction k with
  | zero =>
    obtain rfl : j = 0 := by omega
    exact Int.le_refl _
  | succ k ih =>
    by_cases e : j = k + 1
    · subst e; exact Int.le_refl _
    · have h1 := ih (by omega) (by omega)
      have h2 := (chg1_iff.1 (chgK_iff.1 h (k + 1) hk)).2.1 (by omega)
      show cC L j ≤ cC L (k + 1)
      have h3 : cC L (k + 1 - 1) = cC L k := rfl
      rw [h3] at h2
      omega
/-- How many changes happen up to column x. -/
def cntB (L : List Int) (n : Nat) (x : Int) : Nat := ((List.range n).filter fun k => decide (cC L k ≤ x)).length
def bmF (F : Fld) (L : List Int) (n : Nat) (x y : Int) : Int := pixF (withF F L (cntB L n x)) x y
def bmL (F : Fld) (L : List Int) (n : Nat) (y : Int) : List Int := (List.range 32).map fun x : Nat => bmF F L n x y
def bmT (F : Fld) (L : List Int) (n : Nat) (y : Int) : List Int := if (fldB F && chgB L n && betB y 0 15) = true then bmL F L n y else []
theorem bmL_len (F : Fld) (L : List Int) (n : Nat) (y : Int) : (bmL F L n y).length = 32 := by simp [bmL]
theorem bmL_get (F : Fld) (L : List Int) (n : Nat) (y : Int) (k : Nat) (h : k < 32) : (bmL F L n y).getD k 0 = bmF F L n k y := by
  unfold bmL
  rw [List.getD_eq_getElem?_getD, List.getElem?_map, List.getElem?_range h]
  rfl
theorem bmL_take (F : Fld) (L : List Int) (n : Nat) (y : Int) (k : Nat) (h : k < 32) : (bmL F L n y).take (k + 1) = (bmL F L n y).take k ++ [bmF F L n k y] := by
  rw [List.take_succ_eq_append_getElem (by rw [bmL_len]; exact h)]
  have := bmL_get F L n y k h
  rw [List.getD_eq_getElem?_getD, List.getElem?_eq_getElem (by rw [bmL_len]; exact h)] at this
  rw [show (bmL F L n y)[k]'(by rw [bmL_len]; exact h) = bmF F L n k y from this]
/-- In an ordered list the changes up to a column are the first so many. -/
theorem cnt_walk {L : List Int} {n : Nat} (h : chgK L n = true) {x : Int} {at_ : Nat} (ha : at_ ≤ n) (h1 : ∀ j, j < at_ → cC L j ≤ x) (h2 : at_ = n ∨ x < cC L at_) : cntB L n x = at_ := by
  unfold cntB
  have e : (List.range n).filter (fun k => decide (cC L k ≤ x)) = List.range at_ := by
    have hs : List.range n = List.range at_ ++ (List.range (n - at_)).map (at_ + ·) := by
      rw [← List.range_add]; congr 1; omega
    rw [hs, List.filter_append, List.filter_eq_self.2, List.filter_eq_nil_iff.2, List.append_nil]
    · intro k hk
      obtain ⟨j, hj, rfl⟩ := List.mem_map.1 hk
      rw [List.mem_range] at hj
      rcases h2 with h2 | h2
      · omega
      · have := chg_asc h (show at_ ≤ at_ + j by omega) (by omega)
        simp
        omega
    · intro k hk
      rw [List.mem_range] at hk
      simpa using h1 k hk
  rw [e, List.length_range]
theorem with_ok {F : Fld} {L : List Int} {n k : Nat} (hF : FOk F) (h : chgK L n = true) (hk : k ≤ n) : FOk (withF F L k) := by
  unfold withF
  split
  · exact hF
  · have h1 := chg1_iff.1 (chgK_iff.1 h (k - 1) (by omega))
    exact { hF with x0 := h1.2.2.1.1, x1 := h1.2.2.1.2, y0 := h1.2.2.2.1, y1 := h1.2.2.2.2 }
end Go.Proofs.Ytddllcgbdgpkbaa
