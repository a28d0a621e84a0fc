/- Texts of instructions: what the program and the model write. -/
import Derived.Test.YtehiplkoofdkeaaDoorOps
import Derived.Lib.ItoaNum
import Derived.Lib.AtoiAll
import Derived.Lib.IndexMore
namespace Go.Proofs.YtehiplkoofdkeaaDoor
open Go.ChangeShapes Go.WideShapes Go.ChangeAt Go.RowKit

/-- The text of an instruction; no letters for one that is not valid. -/
def fmtN (op arg : Int) : List UInt8 := if ordB op arg = true then (if lenN op = 1 then nameN op else nameN op ++ 32 :: Lib.decDigits arg.toNat) else []
theorem ba_append (a b : List UInt8) : (⟨a.toArray⟩ : ByteArray) ++ ⟨b.toArray⟩ = ⟨(a ++ b).toArray⟩ := by
  apply ByteArray.ext
  simp
theorem ba_inj {a b : List UInt8} : (⟨a.toArray⟩ : ByteArray) = ⟨b.toArray⟩ ↔ a = b := by
  constructor
  · intro h; have := congrArg (fun x : ByteArray => x.data.toList) h; simpa using this
  · rintro rfl; rfl
theorem name_len (op : Int) : (nameN op).length ≤ 6 := by
  unfold nameN
  split
  · rename_i h
    obtain ⟨h0, h1⟩ := betB_yes h
    obtain ⟨k, rfl⟩ : ∃ k : Nat, op = k := ⟨op.toNat, by omega⟩
    rcases sixteen (k := k) (by omega) with rfl | rfl | rfl | rfl | rfl | rfl | rfl | rfl | rfl | rfl | rfl | rfl | rfl | rfl | rfl | rfl <;> decide
  · simp
/-- The numbers up to 1023 as digits. -/
theorem dec_all (P : List UInt8 → Nat → Bool) (h : (List.range 1024).all (fun n => P (if n < 10 then [UInt8.ofNat (48 + n)] else if n < 100 then [UInt8.ofNat (48 + n / 10), UInt8.ofNat (48 + n % 10)] else if n < 1000 then [UInt8.ofNat (48 + n / 100), UInt8.ofNat (48 + n / 10 % 10), UInt8.ofNat (48 + n % 10)] else [UInt8.ofNat (48 + n / 1000), UInt8.ofNat (48 + n / 100 % 10), UInt8.ofNat (48 + n / 10 % 10), UInt8.ofNat (48 + n % 10)]) n) = true) (n : Nat) (hn : n ≤ 1023) : P (Lib.decDigits n) n = true := by
  have h1 := List.all_eq_true.1 h n (List.mem_range.2 (by omega))
  have e : Lib.decDigits n = (if n < 10 then [UInt8.ofNat (48 + n)] else if n < 100 then [UInt8.ofNat (48 + n / 10), UInt8.ofNat (48 + n % 10)] else if n < 1000 then [UInt8.ofNat (48 + n / 100), UInt8.ofNat (48 + n / 10 % 10), UInt8.ofNat (48 + n % 10)] else [UInt8.ofNat (48 + n / 1000), UInt8.ofNat (48 + n / 100 % 10), UInt8.ofNat (48 + n / 10 % 10), UInt8.ofNat (48 + n % 10)]) := by
    by_cases a : n < 10
    · rw [Lib.decDigits, dif_pos a, if_pos a]
    · rw [if_neg a, Lib.decDigits, dif_neg a]
      by_cases b : n < 100
      · rw [if_pos b, Lib.decDigits, dif_pos (by omega)]; simp
      · rw [if_neg b, Lib.decDigits, dif_neg (by omega)]
        by_cases c : n < 1000
        · rw [if_pos c, Lib.decDigits, dif_pos (by omega)]; simp [Nat.div_div_eq_div_mul]
        · rw [if_neg c, Lib.decDigits, dif_neg (by omega), Lib.decDigits, dif_pos (by omega)]; simp [Nat.div_div_eq_div_mul]
  rw [e]; exact h1
/-- What the model reads as the argument: the digits of the text. -/
def digStep (a : Int) (c : UInt8) : Int := if 48 ≤ (c.toNat : Int) ∧ (c.toNat : Int) ≤ 57 ∧ a < 10000 then 10 * a + ((c.toNat : Int) - 48) else a
def digF (l : List UInt8) : Int := l.foldl digStep 0
theorem digF_snoc (l : List UInt8) (c : UInt8) : digF (l ++ [c]) = digStep (digF l) c := by simp [digF]
theorem digStep_bd {a : Int} (c : UInt8) (h0 : 0 ≤ a) (h1 : a ≤ 100000) : 0 ≤ digStep a c ∧ digStep a c ≤ 100000 := by
  unfold digStep; split <;> omega
theorem digF_bd (l : List UInt8) : 0 ≤ digF l ∧ digF l ≤ 100000 := by
  suffices ∀ a : Int, 0 ≤ a → a ≤ 100000 → 0 ≤ l.foldl digStep a ∧ l.foldl digStep a ≤ 100000 from this 0 (by omega) (by omega)
  induction l with
  | nil => intro a h0 h1; exact ⟨h0, h1⟩
  | cons c r ih => intro a h0 h1; obtain ⟨k0, k1⟩ := digStep_bd c h0 h1; exact ih _ k0 k1
/-- The instruction that a text spells. -/
def parN (s : List UInt8) : Option (Int × Int) := if s = [] ∨ 12 < s.length then none else ((List.range 16).find? fun k : Nat => fmtN (k : Int) (digF s) == s).map fun k : Nat => ((k : Int), digF s)

theorem fmt_ne {op arg : Int} (h : ordB op arg = true) : ∃ k : Nat, k < 16 ∧ op = k ∧ 0 ≤ arg ∧ arg ≤ 1023 ∧ (lenN op = 1 → arg = 0) := by
  obtain ⟨h1, h2, h3, h4, h5⟩ := ordB_len h
  refine ⟨op.toNat, by omega, by omega, h4, h5, fun hl => ?_⟩
  simpa [ordB, hl] using h
theorem name_at (k : Nat) (hk : k < 16) (P : List UInt8 → Nat → Bool) (h : ((opNames.zip (List.range 16)).all fun x => P x.1 x.2) = true) : P (nameN k) k = true := by
  have e : nameN (k : Int) = opNames.getD k [] := by
    rcases sixteen hk with rfl | rfl | rfl | rfl | rfl | rfl | rfl | rfl | rfl | rfl | rfl | rfl | rfl | rfl | rfl | rfl <;> rfl
  rw [e]
  have h1 := List.all_eq_true.1 h (opNames.getD k [], k) (by
    rcases sixteen hk with rfl | rfl | rfl | rfl | rfl | rfl | rfl | rfl | rfl | rfl | rfl | rfl | rfl | rfl | rfl | rfl <;> simp [opNames, List.range, List.range.loop])
  exact h1
theorem name_plain (k : Nat) (hk : k < 16) : (nameN k).foldl digStep 0 = 0 ∧ (nameN k).all (· != 32) = true ∧ nameN k ≠ [] := by
  have h := name_at k hk (fun l _ => decide (l.foldl digStep 0 = 0) && l.all (· != 32) && decide (l ≠ [])) (by decide +kernel)
  simp only [Bool.and_eq_true, decide_eq_true_eq] at h
  exact ⟨h.1.1, h.1.2, h.2⟩
theorem name_inj {j k : Nat} (hj : j < 16) (hk : k < 16) (h : nameN j = nameN k) : j = k := by
  have h1 := name_at j hj (fun l i => (List.range 16).all fun k => !(decide (l = nameN k)) || decide (i = k)) (by decide +kernel)
  have h2 := List.all_eq_true.1 h1 k (List.mem_range.2 hk)
  simpa [h] using h2
theorem dec_plain (n : Nat) (hn : n ≤ 1023) : (Lib.decDigits n).foldl digStep 0 = n ∧ (Lib.decDigits n).length ≤ 4 ∧ Lib.atoiAll (Lib.decDigits n) = .ok (n : Int) := by
  have h := dec_all (fun l n => decide (l.foldl digStep 0 = (n : Int)) && decide (l.length ≤ 4) && decide (Lib.atoiAll l = .ok (n : Int))) (by decide +kernel) n hn
  simp only [Bool.and_eq_true, decide_eq_true_eq] at h
  exact ⟨h.1.1, h.1.2, h.2⟩
/-- What stands before the first blank of a text, and what behind it. -/
theorem fmt_parts {op arg : Int} (h : ordB op arg = true) : (lenN op = 1 ∧ arg = 0 ∧ fmtN op arg = nameN op) ∨ (lenN op ≠ 1 ∧ fmtN op arg = nameN op ++ 32 :: Lib.decDigits arg.toNat) := by
  unfold fmtN
  rw [if_pos h]
  by_cases hl : lenN op = 1
  · obtain ⟨k, _, _, _, _, h5⟩ := fmt_ne h
    exact .inl ⟨hl, h5 hl, by rw [if_pos hl]⟩
  · exact .inr ⟨hl, by rw [if_neg hl]⟩
theorem take_name {l r : List UInt8} (h : l.all (· != 32) = true) : (l ++ 32 :: r).takeWhile (· != 32) = l := by
  induction l with
  | nil => simp
  | cons a l ih => simp only [List.all_cons, Bool.and_eq_true] at h; simp only [List.cons_append]; rw [List.takeWhile_cons, if_pos h.1, ih h.2]
theorem take_all {l : List UInt8} (h : l.all (· != 32) = true) : l.takeWhile (· != 32) = l := by
  induction l with
  | nil => simp
  | cons a l ih => simp only [List.all_cons, Bool.and_eq_true] at h; rw [List.takeWhile_cons, if_pos h.1, ih h.2]
theorem fmt_name {op arg : Int} (h : ordB op arg = true) : (fmtN op arg).takeWhile (· != 32) = nameN op := by
  obtain ⟨k, hk, rfl, _, _, _⟩ := fmt_ne h
  obtain ⟨_, hp, _⟩ := name_plain k hk
  rcases fmt_parts h with ⟨_, _, e⟩ | ⟨_, e⟩ <;> rw [e]
  · exact take_all hp
  · exact take_name hp
theorem fmt_dig {op arg : Int} (h : ordB op arg = true) : digF (fmtN op arg) = arg := by
  obtain ⟨k, hk, rfl, h0, h1, h5⟩ := fmt_ne h
  obtain ⟨hn, _, _⟩ := name_plain k hk
  rcases fmt_parts h with ⟨_, ha, e⟩ | ⟨_, e⟩ <;> rw [e]
  · rw [ha]; exact hn
  · obtain ⟨hd, _, _⟩ := dec_plain arg.toNat (by omega)
    unfold digF
    rw [List.foldl_append, hn, List.foldl_cons]
    have : digStep 0 32 = 0 := by decide
    rw [this, hd]; omega
theorem fmt_size {op arg : Int} (h : ordB op arg = true) : fmtN op arg ≠ [] ∧ (fmtN op arg).length ≤ 12 := by
  obtain ⟨k, hk, rfl, h0, h1, h5⟩ := fmt_ne h
  obtain ⟨_, _, hne⟩ := name_plain k hk
  have hl := name_len (k : Int)
  rcases fmt_parts h with ⟨_, _, e⟩ | ⟨_, e⟩ <;> rw [e]
  · exact ⟨hne, by omega⟩
  · obtain ⟨_, hd, _⟩ := dec_plain arg.toNat (by omega)
    exact ⟨by simp, by simp; omega⟩
theorem fmt_len (op arg : Int) : (fmtN op arg).length ≤ 12 := by
  by_cases h : ordB op arg = true
  · exact (fmt_size h).2
  · simp [fmtN, h]
theorem fmt_valid {op arg : Int} (h : fmtN op arg ≠ []) : ordB op arg = true := by
  by_cases hv : ordB op arg = true
  · exact hv
  · simp [fmtN, hv] at h
theorem fmt_inj {op arg op' arg' : Int} (h : ordB op arg = true) (h' : ordB op' arg' = true) (e : fmtN op arg = fmtN op' arg') : op = op' ∧ arg = arg' := by
  have a := fmt_dig h
  have b := fmt_dig h'
  have c := fmt_name h
  have d := fmt_name h'
  rw [e] at a c
  obtain ⟨k, hk, rfl, _⟩ := fmt_ne h
  obtain ⟨j, hj, rfl, _⟩ := fmt_ne h'
  exact ⟨by rw [name_inj hk hj (c.symm.trans d)], a.symm.trans b⟩
theorem par_some {s : List UInt8} {op arg : Int} (h : parN s = some (op, arg)) : ordB op arg = true ∧ fmtN op arg = s ∧ ∃ k : Nat, k < 16 ∧ op = k := by
  unfold parN at h
  split at h
  · cases h
  · rename_i hs
    obtain ⟨k, hk, e⟩ := Option.map_eq_some_iff.1 h
    have h1 := List.find?_some hk
    have h2 := List.mem_range.1 (List.mem_of_find?_eq_some hk)
    injection e with e1 e2
    subst e1; subst e2
    have h3 : fmtN (k : Int) (digF s) = s := by simpa using h1
    exact ⟨fmt_valid (fun e => hs (.inl (by rw [← h3, e]))), h3, k, h2, rfl⟩
theorem par_fmt {op arg : Int} (h : ordB op arg = true) : parN (fmtN op arg) = some (op, arg) := by
  obtain ⟨k, hk, rfl, _⟩ := fmt_ne h
  obtain ⟨s1, s2⟩ := fmt_size h
  unfold parN
  rw [if_neg (by rintro (e | e); exact s1 e; omega), fmt_dig h]
  have hf : (List.range 16).find? (fun j : Nat => fmtN (j : Int) arg == fmtN (k : Int) arg) = some k := by
    cases hq : (List.range 16).find? (fun j : Nat => fmtN (j : Int) arg == fmtN (k : Int) arg) with
    | none =>
      have := List.find?_eq_none.1 hq k (List.mem_range.2 hk)
      simp at this
    | some j =>
      have h1 := List.find?_some hq
      have h3 : fmtN (j : Int) arg = fmtN (k : Int) arg := by simpa using h1
      have hv := fmt_valid (op := (j : Int)) (arg := arg) (by rw [h3]; exact s1)
      have := (fmt_inj hv h h3).1
      rw [show j = k by omega]
  rw [hf]; rfl
theorem par_none {s : List UInt8} (h : ∀ op arg, ordB op arg = true → fmtN op arg ≠ s) : parN s = none := by
  cases hp : parN s with
  | none => rfl
  | some x => obtain ⟨op, arg⟩ := x; obtain ⟨h1, h2, _⟩ := par_some hp; exact absurd h2 (h op arg h1)
theorem index_miss {l : List UInt8} (h : l.all (· != 32) = true) : Lib.index l [32] = -1 := by
  induction l with
  | nil => rfl
  | cons a l ih =>
    simp only [List.all_cons, Bool.and_eq_true] at h
    have ha : (32 == a) = false := by have := h.1; simp at this; simp; exact fun e => this e.symm
    simp [Lib.index, ih h.2, List.isPrefixOf, ha]
theorem index_hit {l r : List UInt8} (h : l.all (· != 32) = true) : Lib.index (l ++ 32 :: r) [32] = l.length := by
  induction l with
  | nil => simp [Lib.index, List.isPrefixOf]
  | cons a l ih =>
    simp only [List.all_cons, Bool.and_eq_true] at h
    have ha : (32 == a) = false := by have := h.1; simp at this; simp; exact fun e => this e.symm
    simp only [List.cons_append, Lib.index, ih h.2, List.isPrefixOf, ha]
    simp
theorem cut_fmt {op arg : Int} (h : ordB op arg = true) : (Lib.cut (fmtN op arg) [32]).1 = nameN op ∧ (((Lib.cut (fmtN op arg) [32]).2.1 = [] ∧ arg = 0) ∨ (Lib.cut (fmtN op arg) [32]).2.1 = Lib.decDigits arg.toNat) := by
  obtain ⟨k, hk, rfl, h0, h1, h5⟩ := fmt_ne h
  obtain ⟨_, hp, _⟩ := name_plain k hk
  rcases fmt_parts h with ⟨_, ha, e⟩ | ⟨_, e⟩ <;> rw [e]
  · simp [Lib.cut, index_miss hp, ha]
  · rw [Lib.cut, index_hit hp, if_pos (by omega)]
    simp
end Go.Proofs.YtehiplkoofdkeaaDoor
