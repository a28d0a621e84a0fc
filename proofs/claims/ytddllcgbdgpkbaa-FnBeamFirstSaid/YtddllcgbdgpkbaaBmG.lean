/- The real changes of a line, as plain data: those with which a new part begins. -/
import Derived.Test.YtddllcgbdgpkbaaBmV
namespace Go.Proofs.Ytddllcgbdgpkbaa
open Go.ChangeShapes Go.WideShapes Go.ChangeAt Go.RowKit
set_option linter.unusedVariables false

theorem app_lo {R T : List Int} {m k : Nat} (hl : R.length = 3 * m) (hk : k < m) : cC (R ++ T) k = cC R k ∧ cX (R ++ T) k = cX R k ∧ cY (R ++ T) k = cY R k := by
  unfold cC cX cY
  refine ⟨?_, ?_, ?_⟩ <;> rw [List.getD_eq_getElem?_getD, List.getElem?_append_left (by omega), ← List.getD_eq_getElem?_getD]
theorem app_at {R : List Int} {m : Nat} {c u v : Int} (hl : R.length = 3 * m) : cC (R ++ [c, u, v]) m = c ∧ cX (R ++ [c, u, v]) m = u ∧ cY (R ++ [c, u, v]) m = v := by
  unfold cC cX cY
  refine ⟨?_, ?_, ?_⟩ <;> rw [List.getD_eq_getElem?_getD, List.getElem?_append_right (by omega), hl]
  · simp
  · rw [show 3 * m + 1 - 3 * m = 1 by omega]; rfl
  · rw [show 3 * m + 2 - 3 * m = 2 by omega]; rfl
/-- The shifts that hold at column x behind the first k changes. -/
def shK (s t : Int) (L : List Int) (x : Int) : Nat → Int × Int
  | 0 => (s, t)
  | k + 1 => if cC L k ≤ x then (cX L k, cY L k) else shK s t L x k
theorem shK_yes {s t : Int} {L : List Int} {x : Int} {k : Nat} (h : cC L k ≤ x) : shK s t L x (k + 1) = (cX L k, cY L k) := by rw [shK, if_pos h]
theorem shK_no {s t : Int} {L : List Int} {x : Int} {k : Nat} (h : ¬ cC L k ≤ x) : shK s t L x (k + 1) = shK s t L x k := by rw [shK, if_neg h]
theorem shK_app {s t : Int} {R T : List Int} {x : Int} {m : Nat} (hl : R.length = 3 * m) : ∀ k, k ≤ m → shK s t (R ++ T) x k = shK s t R x k
  | 0, _ => rfl
  | k + 1, hk => by
    obtain ⟨h1, h2, h3⟩ := app_lo (T := T) hl (show k < m by omega)
    rw [shK, shK, h1, h2, h3, shK_app hl k (by omega)]
theorem shK_stop {s t : Int} {L : List Int} {x : Int} {a : Nat} : ∀ k, a ≤ k → (∀ j, a ≤ j → j < k → x < cC L j) → shK s t L x k = shK s t L x a
  | 0, h, _ => by
    obtain rfl : a = 0 := by omega
    rfl
  | k + 1, h, hj => by
    by_cases e : a = k + 1
    · rw [e]
    · rw [shK_no (by have := hj k (by omega) (by omega); omega)]
      exact shK_stop k (by omega) fun j h1 h2 => hj j h1 (by omega)
theorem cnt_found (L : List Int) (x : Int) : ∀ n : Nat, ∃ a, a ≤ n ∧ (∀ j, j < a → cC L j ≤ x) ∧ (a = n ∨ x < cC L a)
  | 0 => ⟨0, by omega, fun j hj => by omega, .inl rfl⟩
  | n + 1 => by
    obtain ⟨a, h1, h2, h3⟩ := cnt_found L x n
    rcases h3 with rfl | h3
    · by_cases h : cC L a ≤ x
      · refine ⟨a + 1, by omega, fun j hj => ?_, .inl rfl⟩
        by_cases e : j = a
        · rw [e]; exact h
        · exact h2 j (by omega)
      · exact ⟨a, by omega, h2, .inr (by omega)⟩
    · exact ⟨a, by omega, h2, .inr h3⟩
/-- The background at column x, by the shifts that hold there. -/
theorem with_sh {F : Fld} {L : List Int} {n : Nat} (h : chgK L n = true) (x : Int) : withF F L (cntB L n x) = ⟨F.w, F.xs, F.nt, F.zs, (shK F.sx F.sy L x n).1, (shK F.sx F.sy L x n).2⟩ := by
  obtain ⟨a, h1, h2, h3⟩ := cnt_found L x n
  rw [cnt_walk h h1 h2 h3]
  have e : shK F.sx F.sy L x n = shK F.sx F.sy L x a := shK_stop n h1 fun j hj hn => by
    rcases h3 with h3 | h3
    · omega
    · have := chg_asc h hj hn
      omega
  rw [e]
  unfold withF
  cases a with
  | zero => rfl
  | succ b =>
    rw [if_neg (by omega), shK_yes (h2 b (by omega))]
    rfl
theorem with_parts (F : Fld) (L : List Int) (k : Nat) : ∃ s t, withF F L k = ⟨F.w, F.xs, F.nt, F.zs, s, t⟩ := by
  unfold withF
  split
  · exact ⟨F.sx, F.sy, rfl⟩
  · exact ⟨_, _, rfl⟩
theorem with_succ (F : Fld) (L : List Int) (k : Nat) : withF F L (k + 1) = ⟨F.w, F.xs, F.nt, F.zs, cX L k, cY L k⟩ := by
  unfold withF
  rw [if_neg (by omega)]
  rfl
/-- The real changes among the first k. -/
def rcK (L : List Int) (n : Nat) (x y : Int) : Nat → List Int
  | 0 => []
  | k + 1 => if skipB L n k = true then rcK L n x y k else if cX L k ≠ (ptK L n x y k).2.1 ∨ cY L k ≠ (ptK L n x y k).2.2 then rcK L n x y k ++ [cC L k, cX L k, cY L k] else rcK L n x y k
theorem rcK_skip {L : List Int} {n k : Nat} {x y : Int} (h : skipB L n k = true) : rcK L n x y (k + 1) = rcK L n x y k := by rw [rcK, if_pos h]
theorem rcK_go {L : List Int} {n k : Nat} {x y s t : Int} (h : skipB L n k = false) (hp : (ptK L n x y k).2 = (s, t)) : ((cX L k ≠ s ∨ cY L k ≠ t) → rcK L n x y (k + 1) = rcK L n x y k ++ [cC L k, cX L k, cY L k]) ∧ (cX L k = s ∧ cY L k = t → rcK L n x y (k + 1) = rcK L n x y k) := by
  constructor
  · intro hd
    rw [rcK, if_neg (by rw [h]; simp), hp, if_pos hd]
  · rintro ⟨h1, h2⟩
    rw [rcK, if_neg (by rw [h]; simp), hp, if_neg (by rintro (h3 | h3); exact h3 h1; exact h3 h2)]
theorem pt_go {L : List Int} {n k : Nat} {x y : Int} (h : skipB L n k = false) : (ptK L n x y (k + 1)).2 = (cX L k, cY L k) := by
  rw [ptK, if_neg (by rw [h]; simp)]
theorem pt_skip {L : List Int} {n k : Nat} {x y : Int} (h : skipB L n k = true) : (ptK L n x y (k + 1)).2 = (ptK L n x y k).2 := by rw [ptK_skip h]
theorem skipB_iff {L : List Int} {n k : Nat} : skipB L n k = true ↔ k + 1 < n ∧ cC L (k + 1) = cC L k := by
  unfold skipB
  rw [Bool.and_eq_true, decide_eq_true_iff, decide_eq_true_iff]
/-- What is so of the real changes among the first k. -/
structure RcInv (L : List Int) (n : Nat) (s t : Int) (k m : Nat) : Prop where
  len : (rcK L n s t k).length = 3 * m
  le : m ≤ k
  cols : (ptK L n s t k).1 = (List.range m).map (cC (rcK L n s t k))
  ok : chgK (rcK L n s t k) m = true
  last : 0 < m → ∃ j, j < k ∧ cC (rcK L n s t k) (m - 1) = cC L j
  held : ∀ x, (∀ j, j < k → cC L j ≤ x) → shK s t (rcK L n s t k) x m = (ptK L n s t k).2
  same : ∀ x, (∀ j, k = j + 1 → skipB L n j = true → x < cC L j) → shK s t (rcK L n s t k) x m = shK s t L x k
theorem chgK_app {R : List Int} {m : Nat} {c u v : Int} (hl : R.length = 3 * m) (hR : chgK R m = true) (hc : 0 ≤ c ∧ c ≤ 31) (hu : 0 ≤ u ∧ u ≤ 255) (hv : 0 ≤ v ∧ v ≤ 255) (hm : 0 < m → cC R (m - 1) ≤ c) : chgK (R ++ [c, u, v]) (m + 1) = true := by
  refine chgK_iff.2 fun k hk => chg1_iff.2 ?_
  by_cases e : k = m
  · subst e
    obtain ⟨h1, h2, h3⟩ := app_at (c := c) (u := u) (v := v) hl
    rw [h1, h2, h3]
    refine ⟨hc, fun h => ?_, hu, hv⟩
    rw [(app_lo (T := [c, u, v]) hl (show k - 1 < k by omega)).1]
    exact hm h
  · have hkm : k < m := by omega
    obtain ⟨h1, h2, h3⟩ := app_lo (T := [c, u, v]) hl hkm
    have h := chg1_iff.1 (chgK_iff.1 hR k hkm)
    rw [h1, h2, h3]
    refine ⟨h.1, fun h0 => ?_, h.2.2.1, h.2.2.2⟩
    rw [(app_lo (T := [c, u, v]) hl (show k - 1 < m by omega)).1]
    exact h.2.1 h0
theorem rc_inv {L : List Int} {n : Nat} (s t : Int) (hv : chgK L n = true) : ∀ k, k ≤ n → ∃ m, RcInv L n s t k m
  | 0, _ => ⟨0, { len := rfl, le := Nat.le_refl _, cols := rfl, ok := rfl, last := fun h => by omega, held := fun _ _ => rfl, same := fun _ _ => rfl }⟩
  | k + 1, hk => by
    obtain ⟨m, I⟩ := rc_inv s t hv k (by omega)
    have hck := chg1_iff.1 (chgK_iff.1 hv k (by omega))
    have asc : ∀ j, j < k + 1 → cC L j ≤ cC L k := fun j hj => chg_asc hv (by omega) (by omega)
    have prev : ∀ x, x < cC L k → ∀ j, k = j + 1 → skipB L n j = true → x < cC L j := fun x hx j hj hs => by
      subst hj
      have := (skipB_iff.1 hs).2
      omega
    cases hs : skipB L n k with
    | true =>
      have e1 := rcK_skip (x := s) (y := t) hs
      have e2 := ptK_skip (x := s) (y := t) hs
      refine ⟨m, { len := by rw [e1]; exact I.len, le := by have := I.le; omega, cols := by rw [e1, e2]; exact I.cols, ok := by rw [e1]; exact I.ok, last := fun h => ?_, held := fun x hx => ?_, same := fun x hx => ?_ }⟩
      · obtain ⟨j, hj, he⟩ := I.last h
        exact ⟨j, by omega, by rw [e1]; exact he⟩
      · rw [e1, e2]
        exact I.held x fun j hj => hx j (by omega)
      · have hlt := hx k rfl hs
        rw [e1, shK_no (by omega)]
        exact I.same x (prev x hlt)
    | false =>
      have e2 := pt_go (x := s) (y := t) hs
      by_cases hd : cX L k ≠ (ptK L n s t k).2.1 ∨ cY L k ≠ (ptK L n s t k).2.2
      · have e1 := (rcK_go (x := s) (y := t) hs rfl).1 hd
        have e3 := ((ptK_go (x := s) (y := t) hs rfl).1 hd)
        obtain ⟨a1, a2, a3⟩ := app_at (c := cC L k) (u := cX L k) (v := cY L k) I.len
        refine ⟨m + 1, { len := by rw [e1, List.length_append, I.len]; simp; omega, le := by have := I.le; omega, cols := ?_, ok := ?_, last := fun h => ⟨k, by omega, by rw [e1]; exact a1⟩, held := fun x hx => ?_, same := fun x hx => ?_ }⟩
        · rw [e3, e1, List.range_succ, List.map_append, List.map_cons, List.map_nil, a1, I.cols]
          show List.map _ _ ++ _ = _
          rw [List.map_congr_left (g := cC (rcK L n s t k ++ [cC L k, cX L k, cY L k])) fun j hj => (app_lo I.len (List.mem_range.1 hj)).1.symm]
        · rw [e1]
          refine chgK_app I.len I.ok hck.1 hck.2.2.1 hck.2.2.2 fun h => ?_
          obtain ⟨j, hj, he⟩ := I.last h
          rw [he]
          exact asc j (by omega)
        · rw [e1, e2, shK_yes (by rw [a1]; exact hx k (by omega)), a2, a3]
        · rw [e1]
          by_cases hc : cC L k ≤ x
          · rw [shK_yes (by rw [a1]; exact hc), a2, a3, shK_yes hc]
          · rw [shK_no (by rw [a1]; exact hc), shK_no hc, shK_app I.len m (Nat.le_refl _)]
            exact I.same x (prev x (by omega))
      · have hd' : cX L k = (ptK L n s t k).2.1 ∧ cY L k = (ptK L n s t k).2.2 := by
          constructor
          · exact Decidable.byContradiction fun h => hd (.inl h)
          · exact Decidable.byContradiction fun h => hd (.inr h)
        have e1 := (rcK_go (x := s) (y := t) hs rfl).2 hd'
        have e3 := ((ptK_go (x := s) (y := t) hs rfl).2 hd')
        have e4 : (cX L k, cY L k) = (ptK L n s t k).2 := by rw [hd'.1, hd'.2]
        refine ⟨m, { len := by rw [e1]; exact I.len, le := by have := I.le; omega, cols := by rw [e3, e1]; exact I.cols, ok := by rw [e1]; exact I.ok, last := fun h => ?_, held := fun x hx => ?_, same := fun x hx => ?_ }⟩
        · obtain ⟨j, hj, he⟩ := I.last h
          exact ⟨j, by omega, by rw [e1]; exact he⟩
        · rw [e1, e2, e4]
          exact I.held x fun j hj => hx j (by omega)
        · rw [e1]
          by_cases hc : cC L k ≤ x
          · rw [shK_yes hc, e4]
            exact I.held x fun j hj => by have := asc j (by omega); omega
          · rw [shK_no hc]
            exact I.same x (prev x (by omega))
/-- The line by its real changes is the line. -/
theorem rc_line {F : Fld} {L : List Int} {n m : Nat} (hv : chgK L n = true) (I : RcInv L n F.sx F.sy n m) (y : Int) : bmL F (rcK L n F.sx F.sy n) m y = bmL F L n y := by
  unfold bmL bmF
  refine List.map_congr_left fun x _ => ?_
  rw [with_sh I.ok, with_sh hv, I.same x fun j hj hs => ?_]
  have := (skipB_iff.1 hs).1
  omega
/-- The first column of the part behind j real changes; a line of which the pixels up to column a stand. -/
def startK (R : List Int) (j : Nat) : Nat := if j = 0 then 0 else (cC R (j - 1)).toNat
def partL (F : Fld) (R : List Int) (m : Nat) (y : Int) (a : Nat) : List Int := (List.range 32).map fun x : Nat => if x < a then bmF F R m x y else 0
theorem partL_len (F : Fld) (R : List Int) (m : Nat) (y : Int) (a : Nat) : (partL F R m y a).length = 32 := by simp [partL]
theorem partL_all (F : Fld) (R : List Int) (m : Nat) (y : Int) : partL F R m y 32 = bmL F R m y := by
  unfold partL bmL
  refine List.map_congr_left fun x hx => ?_
  rw [if_pos (List.mem_range.1 hx)]
theorem start_succ (R : List Int) (j : Nat) : startK R (j + 1) = (cC R j).toNat := by
  unfold startK
  rw [if_neg (by omega)]
  rfl
theorem start_le {R : List Int} {m j : Nat} (h : chgK R m = true) (hj : j ≤ m) : startK R j ≤ 31 := by
  unfold startK
  split
  · omega
  · have := (chg1_iff.1 (chgK_iff.1 h (j - 1) (by omega))).1
    omega
theorem start_asc {R : List Int} {m j : Nat} (h : chgK R m = true) (hj : j < m) : startK R j ≤ (cC R j).toNat := by
  unfold startK
  split
  · omega
  · have := chg_asc h (show j - 1 ≤ j by omega) hj
    omega
theorem part_at {R : List Int} {m j : Nat} (h : chgK R m = true) (hj : j ≤ m) (x : Nat) (h1 : startK R j ≤ x) (h2 : j = m ∨ (x : Int) < cC R j) : cntB R m x = j := by
  refine cnt_walk h hj (fun i hi => ?_) h2
  have h3 := chg_asc h (show i ≤ j - 1 by omega) (by omega)
  unfold startK at h1
  rw [if_neg (by omega)] at h1
  omega
end Go.Proofs.Ytddllcgbdgpkbaa
