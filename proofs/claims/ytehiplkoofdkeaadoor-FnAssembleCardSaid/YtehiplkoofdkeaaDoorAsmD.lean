/- Bytes that Assemble returns are disassembled to the lines; lines can be assembled in two parts. -/
import Derived.Test.YtehiplkoofdkeaaDoorDisA
namespace Go.Proofs.YtehiplkoofdkeaaDoor
open Go.ChangeShapes Go.WideShapes Go.ChangeAt Go.RowKit

theorem asm_zero {ls : List ByteArray} (h : asmBad ls = 0) : (∀ x ∈ ls, (lin x).isSome = true) ∧ ls.length ≤ 60 ∧ asmB ls = bytesOf ls := by
  refine ⟨?_, ?_, by unfold asmB; rw [if_pos h]⟩
  · unfold asmBad at h
    cases hf : ls.findIdx? (fun x => (lin x).isNone) with
    | some k => rw [hf] at h; simp only at h; omega
    | none =>
      rw [List.findIdx?_eq_none_iff] at hf
      intro x hx
      have := hf x hx
      cases hl : lin x <;> simp_all
  · unfold asmBad at h
    cases hf : ls.findIdx? (fun x => (lin x).isNone) with
    | some k => rw [hf] at h; simp only at h; omega
    | none =>
      rw [hf] at h
      simp only at h
      by_cases h6 : 60 < ls.length
      · rw [if_pos h6] at h; omega
      · omega
theorem asm_not {ls : List ByteArray} (h : asmBad ls ≠ 0) : ∃ k : Nat, asmBad ls = (k : Int) + 1 ∧ k < ls.length ∧ asmB ls = [] ∧ (lin (ls.getD k ByteArray.empty) = none ∨ k = 60) := by
  have hB : asmB ls = [] := by unfold asmB; rw [if_neg h]
  cases hf : ls.findIdx? (fun x => (lin x).isNone) with
  | some k =>
    have e : asmBad ls = (k : Int) + 1 := by unfold asmBad; rw [hf]
    rw [List.findIdx?_eq_some_iff_getElem] at hf
    obtain ⟨hk, hn, _⟩ := hf
    refine ⟨k, e, hk, hB, .inl ?_⟩
    rw [show ls.getD k ByteArray.empty = ls[k] by simp [List.getD, List.getElem?_eq_getElem hk]]
    simpa using hn
  | none =>
    have e : asmBad ls = if 60 < ls.length then 61 else 0 := by unfold asmBad; rw [hf]
    by_cases h6 : 60 < ls.length
    · rw [if_pos h6] at e
      exact ⟨60, by omega, h6, hB, .inr rfl⟩
    · rw [if_neg h6] at e
      exact absurd e h
theorem mem_getD {ls : List ByteArray} {j : Nat} (hj : j < ls.length) : ls.getD j ByteArray.empty ∈ ls := by
  simp only [List.getD, List.getElem?_eq_getElem hj, Option.getD_some]
  exact List.getElem_mem hj
theorem asm_fineM {ls : List ByteArray} (h : ∀ x ∈ ls, (lin x).isSome = true) (h6 : ls.length ≤ 60) : asmBad ls = 0 ∧ asmB ls = bytesOf ls := asm_all (fun _ hj => h _ (mem_getD hj)) (by omega)
theorem asm_two {ls : List ByteArray} (h : asmBad ls = 0) (k : Nat) : asmB (ls.take k) ++ asmB (ls.drop k) = asmB ls := by
  obtain ⟨h1, h2, h3⟩ := asm_zero h
  rw [(asm_fineM (ls := ls.take k) (fun x hx => h1 x (List.mem_of_mem_take hx)) (by rw [List.length_take]; omega)).2, (asm_fineM (ls := ls.drop k) (fun x hx => h1 x (List.mem_of_mem_drop hx)) (by rw [List.length_drop]; omega)).2, h3]
  unfold bytesOf
  rw [← List.flatMap_append, List.take_append_drop]
theorem lin_parts {x : ByteArray} (h : (lin x).isSome = true) : ∃ op arg, lin x = some (op, arg) ∧ ordB op arg = true ∧ ∀ b, fmtT (b, op, arg) = x := by
  obtain ⟨⟨op, arg⟩, hy⟩ := Option.isSome_iff_exists.1 h
  obtain ⟨h1, h2, _⟩ := par_some hy
  refine ⟨op, arg, hy, h1, fun b => ?_⟩
  unfold fmtT
  rw [h2]
theorem dis_lines : ∀ (ls : List ByteArray) (p : List Int) (f : Nat), (∀ x ∈ ls, (lin x).isSome = true) → (p ++ bytesOf ls).length < p.length + f →
    (disFrom (p ++ bytesOf ls) f p.length).map fmtT = ls ∧ endA p.length (disFrom (p ++ bytesOf ls) f p.length) = (p ++ bytesOf ls).length
  | [], p, f, _, hf => by
    have hd : decN (p ++ bytesOf []) (p.length : Int) = none := by
      cases hd : decN (p ++ bytesOf []) (p.length : Int) with
      | none => rfl
      | some y => obtain ⟨op, arg⟩ := y; obtain ⟨k, hk, h1, _⟩ := dec_some hd; simp [bytesOf] at h1; omega
    rw [dis_none hd]
    simp [endA, bytesOf]
  | x :: r, p, f, hx, hf => by
    obtain ⟨op, arg, e1, hv, hT⟩ := lin_parts (hx x (by simp))
    have eB : bytesOf (x :: r) = ordN op arg ++ bytesOf r := by simp [bytesOf, linB, e1]
    have hl := ordN_len hv
    obtain ⟨l1, _⟩ := ordB_len hv
    have hd : decN (p ++ bytesOf (x :: r)) (p.length : Int) = some (op, arg) := by
      rw [eB, ← List.append_assoc]; exact dec_put p (bytesOf r) hv
    cases f with
    | zero => rw [List.length_append] at hf; omega
    | succ f =>
      have eL : p.length + (lenN op).toNat = (p ++ ordN op arg).length := by rw [List.length_append, hl]
      have eX : p ++ bytesOf (x :: r) = (p ++ ordN op arg) ++ bytesOf r := by rw [eB, List.append_assoc]
      have e0 : disFrom (p ++ bytesOf (x :: r)) (f + 1) p.length = (p.length + (lenN op).toNat, op, arg) :: disFrom (p ++ bytesOf (x :: r)) f (p.length + (lenN op).toNat) := by simp [disFrom, hd]
      rw [e0, endA_cons, List.map_cons, hT]
      rw [eX] at hf ⊢
      obtain ⟨i1, i2⟩ := dis_lines r (p ++ ordN op arg) f (fun y hy => hx y (by simp [hy])) (by rw [← eL]; omega)
      rw [← eL] at i1 i2
      exact ⟨by rw [i1], i2⟩
/-- Disassemble of the bytes returns the lines. -/
theorem dis_asm {ls : List ByteArray} (h : asmBad ls = 0) : disOk (asmB ls) = true ∧ disS (asmB ls) = ls := by
  obtain ⟨h1, h2, h3⟩ := asm_zero h
  rw [h3]
  obtain ⟨i1, i2⟩ := dis_lines ls [] ((bytesOf ls).length + 1) h1 (by simp)
  simp only [List.nil_append, List.length_nil] at i1 i2
  have e : disFrom (bytesOf ls) ((bytesOf ls).length + 1) 0 = seqL (bytesOf ls) := rfl
  rw [e] at i1 i2
  have hl : (seqL (bytesOf ls)).length ≤ 60 := by
    have := congrArg List.length i1
    rw [List.length_map] at this
    omega
  obtain ⟨g1, g2⟩ := dis_good hl i2
  exact ⟨g1, g2.trans i1⟩
end Go.Proofs.YtehiplkoofdkeaaDoor
