/- Changes as plain data: parts of them, columns of real changes, lines drawn in parts. -/
import Derived.Test.YtddllcgbdgpkbaaBmV
namespace Go.Proofs.Ytddllcgbdgpkbaa
open Go.ChangeShapes Go.WideShapes Go.ChangeAt Go.RowKit
set_option linter.unusedVariables false

theorem getD_take {L : List Int} {q i : Nat} (h : i < q) : (L.take q).getD i 0 = L.getD i 0 := by
  rw [List.getD_eq_getElem?_getD, List.getD_eq_getElem?_getD, List.getElem?_take, if_pos h]
/-- A part of valid changes is valid. -/
theorem chgB_part {L : List Int} {n q : Nat} (h : chgB L n = true) (hq : q ≤ n) : chgB (L.take (3 * q)) q = true := by
  unfold chgB at h ⊢
  rw [Bool.and_eq_true, decide_eq_true_eq] at h ⊢
  refine ⟨chgK_iff.2 fun k hk => ?_, by omega⟩
  have h1 := chg1_iff.1 (chgK_iff.1 h.1 k (by omega))
  have e : ∀ j, j < q → cC (L.take (3 * q)) j = cC L j ∧ cX (L.take (3 * q)) j = cX L j ∧ cY (L.take (3 * q)) j = cY L j := fun j hj =>
    ⟨getD_take (by omega), getD_take (by omega), getD_take (by omega)⟩
  refine chg1_iff.2 ?_
  rw [(e k hk).1, (e k hk).2.1, (e k hk).2.2]
  refine ⟨h1.1, fun h0 => ?_, h1.2.2⟩
  rw [(e (k - 1) (by omega)).1]
  exact h1.2.1 h0
/-- A change before the last column, behind the last one. -/
theorem chgB_back {L : List Int} {n : Nat} (hl : L.length = 3 * n) : chgB (L ++ [5, 0, 0, 4, 0, 0]) (n + 2) = false := by
  refine chgB_no (k := n + 1) (by omega) ?_
  cases e : chg1 (L ++ [5, 0, 0, 4, 0, 0]) (n + 1)
  · rfl
  · have h := (chg1_iff.1 e).2.1 (by omega)
    have h1 : cC (L ++ [5, 0, 0, 4, 0, 0]) (n + 1 - 1) = 5 := by
      unfold cC
      rw [List.getD_eq_getElem?_getD, List.getElem?_append_right (by omega), show 3 * (n + 1 - 1) - L.length = 0 by omega]
      rfl
    have h2 : cC (L ++ [5, 0, 0, 4, 0, 0]) (n + 1) = 4 := by
      unfold cC
      rw [List.getD_eq_getElem?_getD, List.getElem?_append_right (by omega), show 3 * (n + 1) - L.length = 3 by omega]
      rfl
    omega
/-- The columns of real changes are those of changes with none behind them at their column. -/
theorem ptK_mem {L : List Int} {n : Nat} {x y : Int} : ∀ {k : Nat} {p : Int}, p ∈ (ptK L n x y k).1 → ∃ j, j < k ∧ p = cC L j ∧ skipB L n j = false
  | 0, p, h => by simp [ptK] at h
  | k + 1, p, h => by
    rw [ptK] at h
    split at h
    · obtain ⟨j, h1, h2⟩ := ptK_mem h
      exact ⟨j, by omega, h2⟩
    · rename_i hs
      have hs' : skipB L n k = false := by simpa using hs
      have h' : p ∈ (if cX L k ≠ (ptK L n x y k).2.1 ∨ cY L k ≠ (ptK L n x y k).2.2 then (ptK L n x y k).1 ++ [cC L k] else (ptK L n x y k).1) := h
      split at h'
      · rcases List.mem_append.1 h' with h' | h'
        · obtain ⟨j, h1, h2⟩ := ptK_mem h'
          exact ⟨j, by omega, h2⟩
        · exact ⟨k, by omega, by simpa using h', hs'⟩
      · obtain ⟨j, h1, h2⟩ := ptK_mem h'
        exact ⟨j, by omega, h2⟩
theorem skip_lt {L : List Int} {n j k : Nat} (h : chgK L n = true) (hs : skipB L n j = false) (hjk : j < k) (hk : k < n) : cC L j < cC L k := by
  have h1 : cC L (j + 1) ≤ cC L k := chg_asc h (by omega) hk
  have h2 : cC L j ≤ cC L (j + 1) := chg_asc h (by omega) (by omega)
  have h3 : cC L (j + 1) ≠ cC L j := fun e => by
    unfold skipB at hs
    rw [decide_eq_true (show j + 1 < n by omega), decide_eq_true e] at hs
    cases hs
  omega
/-- They are ascending. -/
theorem ptK_asc {L : List Int} {n : Nat} {x y : Int} (h : chgK L n = true) : ∀ {k : Nat}, k ≤ n → (ptK L n x y k).1.Pairwise (· < ·)
  | 0, _ => by simp [ptK]
  | k + 1, hk => by
    have ih := ptK_asc (x := x) (y := y) h (k := k) (by omega)
    rw [ptK]
    split
    · exact ih
    · show (if _ then _ else _ : List Int).Pairwise _
      split
      · refine List.pairwise_append.2 ⟨ih, List.pairwise_singleton _ _, fun a ha b hb => ?_⟩
        obtain ⟨j, h1, rfl, h3⟩ := ptK_mem ha
        obtain rfl : b = cC L k := by simpa using hb
        exact skip_lt h h3 h1 (by omega)
      · exact ih
/-- What stands among the first stays. -/
theorem ptK_grow {L : List Int} {n : Nat} {x y : Int} {p : Int} : ∀ {k m : Nat}, k ≤ m → p ∈ (ptK L n x y k).1 → p ∈ (ptK L n x y m).1
  | k, 0, hkm, h => by
    obtain rfl : k = 0 := by omega
    exact h
  | k, m + 1, hkm, h => by
    by_cases e : k = m + 1
    · subst e; exact h
    · have ih := ptK_grow (k := k) (m := m) (by omega) h
      rw [ptK]
      split
      · exact ih
      · show p ∈ (if _ then _ else _ : List Int)
        split
        · exact List.mem_append_left _ ih
        · exact ih
/-- The shifts that hold behind a change with none behind it at its column. -/
theorem ptK_shift {F : Fld} {L : List Int} {n : Nat} {k : Nat} (h : k = 0 ∨ skipB L n (k - 1) = false) : (ptK L n F.sx F.sy k).2 = ((withF F L k).sx, (withF F L k).sy) := by
  cases k with
  | zero => rfl
  | succ k =>
    have hs : skipB L n k = false := by rcases h with h | h; cases h; exact h
    rw [ptK, if_neg (by rw [hs]; simp), with_step]
theorem ptK_over {L : List Int} {n : Nat} {x y : Int} {m : Nat} : ∀ {d : Nat}, (∀ i, m ≤ i → i < m + d → skipB L n i = true) → ptK L n x y (m + d) = ptK L n x y m
  | 0, _ => rfl
  | d + 1, h => by
    rw [← Nat.add_assoc, ptK_skip (h (m + d) (by omega) (by omega))]
    exact ptK_over fun i h1 h2 => h i h1 (by omega)
theorem cnt_le (L : List Int) (n : Nat) (x : Int) : cntB L n x ≤ n := by
  unfold cntB
  exact Nat.le_trans (List.length_filter_le ..) (by simp)
/-- The changes up to a column are the first so many. -/
theorem cnt_char {L : List Int} {n : Nat} (h : chgK L n = true) (x : Int) : (∀ j, j < cntB L n x → cC L j ≤ x) ∧ (∀ j, cntB L n x ≤ j → j < n → x < cC L j) := by
  obtain ⟨a, ha, h1, h2⟩ : ∃ a, a ≤ n ∧ (∀ j, j < a → cC L j ≤ x) ∧ (a = n ∨ x < cC L a) := by
    have hex : ∀ m, m ≤ n → ∃ a, a ≤ m ∧ (∀ j, j < a → cC L j ≤ x) ∧ (a = m ∨ x < cC L a) := by
      intro m
      induction m with
      | zero => exact fun _ => ⟨0, Nat.le_refl _, fun j hj => by omega, .inl rfl⟩
      | succ m ih =>
        intro hm
        obtain ⟨a, ha, h1, h2⟩ := ih (by omega)
        rcases h2 with h2 | h2
        · subst h2
          by_cases hc : cC L a ≤ x
          · refine ⟨a + 1, Nat.le_refl _, fun j hj => ?_, .inl rfl⟩
            by_cases e : j = a
            · subst e; exact hc
            · exact h1 j (by omega)
          · exact ⟨a, by omega, h1, .inr (by omega)⟩
        · exact ⟨a, by omega, h1, .inr h2⟩
    exact hex n (Nat.le_refl _)
  have hc := cnt_walk h ha h1 h2
  rw [hc]
  refine ⟨h1, fun j hj hn => ?_⟩
  rcases h2 with h2 | h2
  · omega
  · have := chg_asc h hj hn
    omega
/-- Where no real change happens the shifts stay. -/
theorem shift_stays {F : Fld} {L : List Int} {n : Nat} (h : chgK L n = true) {x : Int} (hx : x ∉ (ptK L n F.sx F.sy n).1) : withF F L (cntB L n x) = withF F L (cntB L n (x - 1)) := by
  obtain ⟨a1, a2⟩ := cnt_char h x
  obtain ⟨b1, b2⟩ := cnt_char h (x - 1)
  have hle := cnt_le L n x
  have hle' := cnt_le L n (x - 1)
  generalize cntB L n x = a at a1 a2 hle ⊢
  generalize cntB L n (x - 1) = b at b1 b2 hle' ⊢
  by_cases hab : a ≤ b
  · by_cases e : a = b
    · rw [e]
    · have h1 := b1 a (by omega)
      have h2 := a2 a (Nat.le_refl _) (by omega)
      omega
  · have hcol : ∀ i, b ≤ i → i < a → cC L i = x := fun i h1 h2 => by
      have h3 := a1 i h2
      have h4 := b2 i h1 (by omega)
      omega
    obtain ⟨d, rfl⟩ : ∃ d, a = b + d + 1 := ⟨a - b - 1, by omega⟩
    have hov : ptK L n F.sx F.sy (b + d) = ptK L n F.sx F.sy b := ptK_over fun i h1 h2 => by
      unfold skipB
      rw [decide_eq_true (show i + 1 < n by omega), decide_eq_true (by rw [hcol i h1 (by omega), hcol (i + 1) (by omega) (by omega)])]
      rfl
    have hb0 : b = 0 ∨ skipB L n (b - 1) = false := by
      by_cases e : b = 0
      · exact .inl e
      · refine .inr ?_
        unfold skipB
        rw [show b - 1 + 1 = b by omega, decide_eq_false (p := cC L b = cC L (b - 1)) (fun e2 => by
          have h1 := hcol b (Nat.le_refl _) (by omega)
          have h2 := b1 (b - 1) (by omega)
          omega), Bool.and_false]
    have hsh := ptK_shift (F := F) (L := L) (n := n) hb0
    have hlast : skipB L n (b + d) = false := by
      unfold skipB
      by_cases e : b + d + 1 < n
      · rw [decide_eq_false (p := cC L (b + d + 1) = cC L (b + d)) (fun e2 => by
          have h1 := hcol (b + d) (by omega) (by omega)
          have h2 := a2 (b + d + 1) (Nat.le_refl _) e
          omega), Bool.and_false]
      · rw [decide_eq_false e, Bool.false_and]
    have hsame : cX L (b + d) = (withF F L b).sx ∧ cY L (b + d) = (withF F L b).sy := by
      by_cases e : cX L (b + d) = (withF F L b).sx ∧ cY L (b + d) = (withF F L b).sy
      · exact e
      · refine absurd (ptK_grow (k := b + d + 1) hle ?_) hx
        rw [ptK, if_neg (by rw [hlast]; simp)]
        show x ∈ (if _ then _ else _ : List Int)
        rw [hov, hsh, if_pos (by
          by_cases e1 : cX L (b + d) = (withF F L b).sx
          · exact .inr fun e2 => e ⟨e1, e2⟩
          · exact .inl e1), hcol (b + d) (by omega) (by omega)]
        simp
    rw [with_step, hsame.1, hsame.2]
    obtain ⟨e1, e2, e3, e4⟩ := with_same F L b
    generalize withF F L b = G at e1 e2 e3 e4 ⊢
    obtain ⟨g1, g2, g3, g4, g5, g6⟩ := G
    simp only at e1 e2 e3 e4
    rw [e1, e2, e3, e4]
theorem shift_between {F : Fld} {L : List Int} {n : Nat} (h : chgK L n = true) (c : Int) : ∀ (d : Nat), (∀ p ∈ (ptK L n F.sx F.sy n).1, ¬ (c < p ∧ p ≤ c + d)) → withF F L (cntB L n (c + d)) = withF F L (cntB L n c)
  | 0, _ => by rw [Int.natCast_zero, Int.add_zero]
  | d + 1, hp => by
    have ih := shift_between h c d fun p hm hh => hp p hm ⟨hh.1, by omega⟩
    have hx : (c + ((d + 1 : Nat) : Int)) ∉ (ptK L n F.sx F.sy n).1 := fun hm => hp _ hm ⟨by omega, Int.le_refl _⟩
    rw [shift_stays h hx, show c + ((d + 1 : Nat) : Int) - 1 = c + d by omega, ih]
theorem bmF_between {F : Fld} {L : List Int} {n : Nat} (h : chgK L n = true) {c x y : Int} (hcx : c ≤ x) (hp : ∀ p ∈ (ptK L n F.sx F.sy n).1, ¬ (c < p ∧ p ≤ x)) : bmF F L n x y = pixF (withF F L (cntB L n c)) x y := by
  have := shift_between h c (x - c).toNat (fun p hm hh => hp p hm ⟨hh.1, by omega⟩)
  rw [show c + ((x - c).toNat : Int) = x by omega] at this
  unfold bmF
  rw [this]
/-- Without changes. -/
theorem bmL_nil (F : Fld) (y : Int) : bmL F [] 0 y = lineF F y := rfl
theorem bmT_nil (F : Fld) (y : Int) : bmT F [] 0 y = lineT F y := by
  unfold bmT lineT
  rw [show chgB [] 0 = true from rfl, Bool.and_true]
  rfl
/-- A single change at column 0. -/
theorem bmT_one {F : Fld} {x y sx sy : Int} (hv : fldB F = true) (h1 : 0 ≤ sx ∧ sx ≤ 255) (h2 : 0 ≤ sy ∧ sy ≤ 255) : bmT F [0, sx, sy] 1 y = lineT ⟨F.w, F.xs, F.nt, F.zs, sx, sy⟩ y ∧ fldB ⟨F.w, F.xs, F.nt, F.zs, sx, sy⟩ = true := by
  have hc : chgB [0, sx, sy] 1 = true := by
    unfold chgB
    rw [Bool.and_eq_true]
    refine ⟨chgK_iff.2 fun k hk => ?_, by decide⟩
    obtain rfl : k = 0 := by omega
    exact chg1_iff.2 ⟨⟨by show (0 : Int) ≤ 0; omega, by show (0 : Int) ≤ 31; omega⟩, fun h => by omega, h1, h2⟩
  have hk : chgK [0, sx, sy] 1 = true := by unfold chgB at hc; rw [Bool.and_eq_true] at hc; exact hc.1
  have hG : withF F [0, sx, sy] 1 = ⟨F.w, F.xs, F.nt, F.zs, sx, sy⟩ := rfl
  have hf : fldB ⟨F.w, F.xs, F.nt, F.zs, sx, sy⟩ = true := by
    rw [← hG]
    exact fldB_iff.2 (with_ok (fldB_iff.1 hv) hk (Nat.le_refl _))
  refine ⟨?_, hf⟩
  unfold bmT lineT
  rw [hv, hc, hf]
  have e : bmL F [0, sx, sy] 1 y = lineF ⟨F.w, F.xs, F.nt, F.zs, sx, sy⟩ y := by
    unfold bmL lineF
    refine List.map_congr_left fun x hx => ?_
    unfold bmF
    rw [cnt_walk hk (at_ := 1) (Nat.le_refl _) (fun j hj => by obtain rfl : j = 0 := by omega
                                                               show (0 : Int) ≤ x; omega) (.inl rfl), hG]
  rw [e]
  rfl
/-- A change to the shifts that hold already. -/
theorem ptT_seven : ptT [3, 7, 7] 1 7 7 = [] := by decide
/-- The columns of real changes: each is a change's, they ascend, there are at most as many. -/
theorem ptK_len (L : List Int) (n : Nat) (x y : Int) : ∀ k, (ptK L n x y k).1.length ≤ k
  | 0 => Nat.le_refl _
  | k + 1 => by
    have ih := ptK_len L n x y k
    rw [ptK]
    split
    · omega
    · show (if _ then _ else _ : List Int).length ≤ k + 1
      split
      · rw [List.length_append]; simp; omega
      · omega
theorem ptT_facts (L : List Int) (n : Nat) (x y : Int) : (∀ k, k < (ptT L n x y).length → ∃ j, j < n ∧ cC L j = (ptT L n x y).getD k 0) ∧ (∀ k, 0 < k → k < (ptT L n x y).length → (ptT L n x y).getD (k - 1) 0 < (ptT L n x y).getD k 0) ∧ (ptT L n x y).length ≤ n := by
  by_cases h : (chgB L n && betB x 0 255 && betB y 0 255) = true
  · have e : ptT L n x y = (ptK L n x y n).1 := by unfold ptT; rw [if_pos h]
    have hk : chgK L n = true := by
      simp only [Bool.and_eq_true] at h
      have := h.1.1
      unfold chgB at this
      rw [Bool.and_eq_true] at this
      exact this.1
    rw [e]
    have hm := @ptK_mem L n x y n
    have ha := ptK_asc (x := x) (y := y) hk (Nat.le_refl n)
    refine ⟨fun k hk' => ?_, fun k h0 hk' => ?_, ptK_len L n x y n⟩
    · rw [List.getD_eq_getElem?_getD, List.getElem?_eq_getElem hk']
      obtain ⟨j, h1, h2, _⟩ := hm (List.getElem_mem hk')
      exact ⟨j, h1, h2.symm⟩
    · rw [List.getD_eq_getElem?_getD, List.getD_eq_getElem?_getD, List.getElem?_eq_getElem hk', List.getElem?_eq_getElem (show k - 1 < _ by omega)]
      exact List.pairwise_iff_getElem.1 ha (k - 1) k (by omega) hk' (by omega)
  · rw [ptT_no (by simpa using h)]
    exact ⟨fun k hk => by simp at hk, fun k _ hk => by simp at hk, Nat.zero_le _⟩
/-- Whether one of the first j changes is at a column. -/
def anyC (L : List Int) (v : Int) (j : Nat) : Bool := (List.range j).any fun i => decide (cC L i = v)
theorem anyC_step (L : List Int) (v : Int) (j : Nat) : anyC L v (j + 1) = (anyC L v j || decide (cC L j = v)) := by
  unfold anyC
  rw [List.range_succ, List.any_append]
  simp
theorem anyC_yes {L : List Int} {v : Int} {n j : Nat} (hj : j < n) (h : cC L j = v) : anyC L v n = true := by
  unfold anyC
  rw [List.any_eq_true]
  exact ⟨j, List.mem_range.2 hj, by simpa using h⟩
end Go.Proofs.Ytddllcgbdgpkbaa
