/- Noise: an array of 32768 counts in a variable. -/
import Derived.Test.YtkglocdmpfjafaaNoiA
namespace Go.Proofs.Ytkglocdmpfjafaa
open Go.ChangeShapes Go.WideShapes Go.ChangeAt Go.RowKit
set_option linter.unusedVariables false

/-- Bytes as values. -/
def u8v (xs : List Int) : List Value := xs.map (Value.int .u8)
theorem u8v_len (xs : List Int) : (u8v xs).length = xs.length := by simp [u8v]
theorem u8v_at {xs : List Int} {i : Nat} (h : i < xs.length) : (u8v xs)[i]? = some (.int .u8 (xs.getD i 0)) := by
  unfold u8v
  rw [List.getElem?_map, List.getElem?_eq_getElem h, List.getD_eq_getElem?_getD, List.getElem?_eq_getElem h]; rfl
theorem u8v_set (xs : List Int) (i : Nat) (v : Int) : (u8v xs).set i (.int .u8 v) = u8v (xs.set i v) := by
  unfold u8v
  rw [List.map_set]
def isZ8 : Value → Bool
  | .int .u8 (.ofNat 0) => true
  | _ => false
theorem isZ8_is {v : Value} (h : isZ8 v = true) : v = .int .u8 0 := by
  unfold isZ8 at h
  split at h
  · rfl
  · cases h
/-- 2 ^ d zeros taken off a list. -/
def offZ : Nat → List Value → Option (List Value)
  | 0, [] => none
  | 0, v :: vs => if isZ8 v = true then some vs else none
  | d + 1, l => (offZ d l).bind (offZ d)
theorem offZ_is : ∀ (d : Nat) {l r : List Value}, offZ d l = some r → l = List.replicate (2 ^ d) (.int .u8 0) ++ r
  | 0, [], r, h => by unfold offZ at h; cases h
  | 0, v :: vs, r, h => by
    unfold offZ at h
    by_cases hv : isZ8 v = true
    · rw [if_pos hv] at h
      injection h with h
      subst h
      rw [isZ8_is hv]; rfl
    · rw [if_neg hv] at h; cases h
  | d + 1, l, r, h => by
    unfold offZ at h
    cases hx : offZ d l with
    | none => rw [hx] at h; cases h
    | some m =>
      rw [hx] at h
      have h1 := offZ_is d hx
      have h2 := offZ_is d (show offZ d m = some r from h)
      rw [h1, h2, Nat.pow_succ, Nat.mul_two, ← List.append_assoc, List.replicate_append_replicate]
def okZ (d : Nat) : Option Value → Bool
  | some (.agg a) => match offZ d a.toList with
    | some [] => true
    | _ => false
  | _ => false
theorem okZ_is {d : Nat} {o : Option Value} (h : okZ d o = true) : o = some (.agg (u8v (List.replicate (2 ^ d) 0)).toArray) := by
  unfold okZ at h
  split at h
  · rename_i a
    split at h
    · rename_i hx
      have := offZ_is d hx
      rw [List.append_nil] at this
      congr 2
      apply Array.ext'
      unfold u8v
      rw [List.map_replicate]
      exact this
    · cases h
  · cases h
theorem zc_ok : okZ 15 (TypeInfo.zero Try.t42) = true := by kernel_rfl
theorem zc_zero : TypeInfo.zero Try.t42 = some (.agg (u8v (List.replicate 32768 0)).toArray) := okZ_is zc_ok
theorem run_allocCnt (w : World) : (Instr.alloc 42 true (.tuple #[])).run Try.prog w = .ok (.pointer (some ⟨w.heap.size, 0, none⟩)) (w.alloc (.cells (u8v (List.replicate 32768 0)).toArray 42)) := by
  have hz : (zeroValue 42).run Try.prog w = .ok (.agg (u8v (List.replicate 32768 0)).toArray) w := by
    unfold zeroValue
    rw [Sem.run_bind, Try.typeInfo42, Result.andThen_ok, zc_zero]
    rfl
  unfold Instr.alloc
  rw [Sem.run_bind, hz, Result.andThen_ok]
  generalize (u8v (List.replicate 32768 0)).toArray = cs
  clear hz
  go_simp
section
variable {ops : Array Oper} {rest : List Oper} {o : Oper} {a : Act} {w : World} {Q : Exit → Act → World → Prop}
theorem st_allocCnt (zs : List Int) (hz : zs = List.replicate 32768 0) (hw : Region.wanted o (yielded ops a.tmps) = true) (ho : o.op = .alloc 42)
    (h : wpList Try.prog ops Q rest (a.put o.dst (.pointer (some ⟨w.heap.size, 0, none⟩))) (w.alloc (.cells (u8v zs).toArray 42))) : wpList Try.prog ops Q (o :: rest) a w :=
  wpList_step fun K hK => by
    subst hz
    rw [if_pos hw]
    unfold Oper.wp execOp
    simp only [ho, Sem.run_bind, run_allocCnt, Result.andThen_ok, Sem.run_pure]
    exact hK _ _ h
end
end Go.Proofs.Ytkglocdmpfjafaa
