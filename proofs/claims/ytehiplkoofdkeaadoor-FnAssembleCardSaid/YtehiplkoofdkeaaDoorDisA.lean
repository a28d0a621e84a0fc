/- Lines that Disassemble returns are assembled to the bytes; bytes that Assemble returns are disassembled to the lines. -/
import Derived.Test.YtehiplkoofdkeaaDoorDis
import Derived.Test.YtehiplkoofdkeaaDoorAsm
namespace Go.Proofs.YtehiplkoofdkeaaDoor
open Go.ChangeShapes Go.WideShapes Go.ChangeAt Go.RowKit

def endA (a : Nat) (l : List (Nat × Int × Int)) : Nat := (l.getLast?.map (·.1)).getD a
theorem endA_cons (a : Nat) (x : Nat × Int × Int) (r : List (Nat × Int × Int)) : endA a (x :: r) = endA x.1 r := by
  unfold endA
  rw [List.getLast?_cons]
  cases r.getLast? <;> simp
theorem lin_fmt {op arg : Int} (h : ordB op arg = true) (b : Nat) : lin (fmtT (b, op, arg)) = some (op, arg) := par_fmt h
theorem linB_fmt {op arg : Int} (h : ordB op arg = true) (b : Nat) : linB (fmtT (b, op, arg)) = ordN op arg := by
  unfold linB; rw [lin_fmt h]
theorem dis_bytes (xs : List Int) : ∀ (f a : Nat), a ≤ xs.length → bytesOf ((disFrom xs f a).map fmtT) = (xs.drop a).take (endA a (disFrom xs f a) - a) ∧ a ≤ endA a (disFrom xs f a)
  | 0, a, _ => by simp [disFrom, endA, bytesOf]
  | f + 1, a, ha => by
    cases hd : decN xs (a : Int) with
    | none => simp [disFrom, hd, endA, bytesOf]
    | some y =>
      obtain ⟨op, arg⟩ := y
      obtain ⟨k, hk, h1, h2, h3, h4, _⟩ := dec_some hd
      obtain ⟨l1, _⟩ := ordB_len h3
      have hka : k = a := by omega
      subst hka
      obtain ⟨e1, e2⟩ := dis_bytes xs f (k + (lenN op).toNat) (by omega)
      have e0 : disFrom xs (f + 1) k = (k + (lenN op).toNat, op, arg) :: disFrom xs f (k + (lenN op).toNat) := by simp [disFrom, hd]
      rw [e0, endA_cons]
      have e3 : bytesOf (((k + (lenN op).toNat, op, arg) :: disFrom xs f (k + (lenN op).toNat)).map fmtT) = ordN op arg ++ bytesOf ((disFrom xs f (k + (lenN op).toNat)).map fmtT) := by
        simp [bytesOf, linB_fmt h3]
      rw [e3, e1, ← h4]
      refine ⟨?_, by show k ≤ endA (k + (lenN op).toNat) _; omega⟩
      show _ = (xs.drop k).take (endA (k + (lenN op).toNat) (disFrom xs f (k + (lenN op).toNat)) - k)
      rw [show endA (k + (lenN op).toNat) (disFrom xs f (k + (lenN op).toNat)) - k = (lenN op).toNat + (endA (k + (lenN op).toNat) (disFrom xs f (k + (lenN op).toNat)) - (k + (lenN op).toNat)) by omega, List.take_add, List.drop_drop]
theorem dis_lin (xs : List Int) : ∀ (f a : Nat), ∀ x ∈ disFrom xs f a, ordB x.2.1 x.2.2 = true
  | 0, _ => by simp [disFrom]
  | f + 1, a => by
    intro x hx
    cases hd : decN xs (a : Int) with
    | none => simp [disFrom, hd] at hx
    | some y =>
      obtain ⟨op, arg⟩ := y
      simp only [disFrom, hd, List.mem_cons] at hx
      obtain ⟨k, hk, _, h2, h3, _, _⟩ := dec_some hd
      rcases hx with rfl | hx
      · exact h3
      · exact dis_lin xs f _ x hx
theorem disS_size (xs : List Int) (i : Nat) : ((disS xs).getD i ByteArray.empty).size ≤ 12 := by
  unfold disS
  by_cases h : i < (if disOk xs = true then (seqL xs).map fmtT else []).length
  · have hm : (if disOk xs = true then (seqL xs).map fmtT else []).getD i ByteArray.empty ∈ (if disOk xs = true then (seqL xs).map fmtT else []) := by
      simp only [List.getD, List.getElem?_eq_getElem h, Option.getD_some]
      exact List.getElem_mem h
    generalize (if disOk xs = true then (seqL xs).map fmtT else []).getD i ByteArray.empty = X at hm
    split at hm
    · obtain ⟨y, _, rfl⟩ := List.mem_map.1 hm
      exact fmt_len y.2.1 y.2.2
    · cases hm
  · simp only [List.getD, List.getElem?_eq_none (Nat.le_of_not_lt h), Option.getD_none]
    decide
theorem disOk_parts {xs : List Int} (h : disOk xs = true) : (seqL xs).length ≤ 60 ∧ endAt (seqL xs) = xs.length ∧ disS xs = (seqL xs).map fmtT := by
  have h' := h
  simp only [disOk, Bool.and_eq_true, decide_eq_true_eq] at h
  exact ⟨h.1, h.2, by simp [disS, h']⟩
/-- Assemble of the lines returns the bytes. -/
theorem asm_dis {xs : List Int} (h : disOk xs = true) : asmBad (disS xs) = 0 ∧ asmB (disS xs) = xs := by
  obtain ⟨h1, h2, h3⟩ := disOk_parts h
  have hl : (disS xs).length ≤ 60 := by rw [h3]; simpa using h1
  obtain ⟨e1, e2⟩ := asm_all (xs := disS xs) (fun j hj => by
    have hm : (disS xs).getD j ByteArray.empty ∈ disS xs := by
      simp only [List.getD, List.getElem?_eq_getElem hj, Option.getD_some]
      exact List.getElem_mem hj
    rw [h3] at hm
    obtain ⟨⟨b, op, arg⟩, hx, he⟩ := List.mem_map.1 hm
    rw [← h3] at he
    rw [← he, lin_fmt (dis_lin xs _ _ _ hx)]
    rfl) (by omega)
  refine ⟨e1, e2.trans ?_⟩
  rw [h3]
  obtain ⟨b1, _⟩ := dis_bytes xs (xs.length + 1) 0 (by omega)
  have b2 : endA 0 (seqL xs) = xs.length := h2
  rw [show disFrom xs (xs.length + 1) 0 = seqL xs from rfl, b2] at b1
  rw [b1]
  simp
end Go.Proofs.YtehiplkoofdkeaaDoor
