/- What copies do: plain mathematics. -/
import Derived.Test.YtbcibgfjdenheaaMemMath
namespace Go.Proofs.Ytbcibgfjdenheaa

theorem addrB_mk {a : Int} (h0 : 0 ≤ a) (h1 : a ≤ 1023) : addrB a = true := by simp [addrB, h0, h1]
theorem copyM_in {M : Mem} (hv : validB M = true) {f t n : Int} (f0 : 0 ≤ f) (f1 : f ≤ 1023) (t0 : 0 ≤ t) (t1 : t ≤ 1023) (n0 : 0 ≤ n) (n1 : n ≤ 256) : copyM M f t n = copyN M f.toNat t.toNat n.toNat := by
  unfold copyM; rw [if_pos ⟨⟨n0, n1⟩, addrB_mk f0 f1, addrB_mk t0 t1, hv⟩]
theorem copyM_or (M : Mem) (f t n : Int) : copyM M f t n = memZ ∨ (validB M = true ∧ (0 ≤ n ∧ n ≤ 256) ∧ (0 ≤ f ∧ f ≤ 1023) ∧ (0 ≤ t ∧ t ≤ 1023) ∧ validB (copyM M f t n) = true) := by
  unfold copyM
  split
  · rename_i h
    obtain ⟨h1, h2, h3, h4⟩ := h
    exact .inr ⟨h4, h1, addrB_yes h2, addrB_yes h3, valid_of (good_copy (good_of h4) _ _ _)⟩
  · exact .inl rfl
theorem list_set_same (xs : List Int) (i : Nat) (hi : i < xs.length) : xs.set i (xs.getD i 0) = xs := by
  apply List.ext_getElem (by simp)
  intro j h1 h2
  rw [List.getElem_set]
  split
  · rename_i h; subst h; simp [List.getD, List.getElem?_eq_getElem hi]
  · rfl
theorem copy_self {M : Mem} (g : Good M) : ∀ i, i ≤ 256 → copyN M 0 0 i = M := by
  intro i
  induction i with
  | zero => intro _; rfl
  | succ i ih =>
    intro hi
    have e := ih (by omega)
    show { copyN M 0 0 i with ram := (copyN M 0 0 i).ram.set ((0 + i) % 256) (readN (copyN M 0 0 i) ((0 + i) % 1024)) } = M
    rw [e]
    have h1 : (0 + i) % 256 = i := by omega
    have h2 : (0 + i) % 1024 = i := by omega
    rw [h1, h2]
    unfold readN
    rw [if_pos (by omega), Nat.mod_eq_of_lt (by omega : i < 256), list_set_same _ _ (by rw [g.ram]; omega)]
theorem copy_bankN {M : Mem} (g : Good M) (k : Nat) : ∀ i, i + k ≤ 256 → ∀ j, j < 256 → (copyN M (512 + k) k i).ram.getD j 0 = if k ≤ j ∧ j < k + i then (M.rom.getD 0 []).getD j 0 else M.ram.getD j 0 := by
  intro i
  induction i with
  | zero => intro _ j _; rw [if_neg (by omega)]; rfl
  | succ i ih =>
    intro hi j hj
    have gi := good_copy g (512 + k) k i
    show ((copyN M (512 + k) k i).ram.set ((k + i) % 256) (readN (copyN M (512 + k) k i) ((512 + k + i) % 1024))).getD j 0 = _
    have h1 : (k + i) % 256 = k + i := by omega
    have h2 : (512 + k + i) % 1024 = 512 + k + i := by omega
    have hr : readN (copyN M (512 + k) k i) (512 + k + i) = (M.rom.getD 0 []).getD (k + i) 0 := by
      unfold readN
      rw [if_neg (by omega), if_pos (by omega), copy_rom, show 512 + k + i - 512 = k + i by omega]
    rw [h1, h2, hr, getD_set _ _ _ _ (by rw [gi.ram]; omega)]
    by_cases e : j = k + i
    · subst e
      rw [if_pos rfl, if_pos (by omega)]
    · rw [if_neg e, ih (by omega) j hj]
      by_cases h : k ≤ j ∧ j < k + i
      · rw [if_pos h, if_pos (by omega)]
      · rw [if_neg h, if_neg (by omega)]
theorem copy_fill {M : Mem} (g : Good M) (k : Nat) (hk : k < 200) : ∀ i, i ≤ 50 → ∀ j, j < 256 → (copyN M k (k + 1) i).ram.getD j 0 = if k < j ∧ j ≤ k + i then M.ram.getD k 0 else M.ram.getD j 0 := by
  intro i
  induction i with
  | zero => intro _ j _; rw [if_neg (by omega)]; rfl
  | succ i ih =>
    intro hi j hj
    have gi := good_copy g k (k + 1) i
    show ((copyN M k (k + 1) i).ram.set ((k + 1 + i) % 256) (readN (copyN M k (k + 1) i) ((k + i) % 1024))).getD j 0 = _
    have h1 : (k + 1 + i) % 256 = k + 1 + i := by omega
    have h2 : (k + i) % 1024 = k + i := by omega
    have hr : readN (copyN M k (k + 1) i) (k + i) = M.ram.getD k 0 := by
      unfold readN
      rw [if_pos (by omega), Nat.mod_eq_of_lt (by omega : k + i < 256), ih (by omega) (k + i) (by omega)]
      by_cases h : k < k + i ∧ k + i ≤ k + i
      · rw [if_pos h]
      · rw [if_neg h, show k + i = k by omega]
    rw [h1, h2, hr, getD_set _ _ _ _ (by rw [gi.ram]; omega)]
    by_cases e : j = k + 1 + i
    · subst e
      rw [if_pos rfl, if_pos (by omega)]
    · rw [if_neg e, ih (by omega) j hj]
      by_cases h : k < j ∧ j ≤ k + i
      · rw [if_pos h, if_pos (by omega)]
      · rw [if_neg h, if_neg (by omega)]
end Go.Proofs.Ytbcibgfjdenheaa
