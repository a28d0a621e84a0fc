/- The laws' own functions on slices of slices of integers. -/
import Derived.Test.YtlppmcflgbeolaaSliceE
namespace Go.Proofs.Ytlppmcflgbeolaa
open Go.ChangeShapes Go.WideShapes Go.ChangeAt Go.RowKit

theorem Ints.drawn {w w' : World} {A : Option Addr} {n : Nat} {xs : List Int} {fp : List Nat} (h : Ints w A n xs fp) (k : ∃ m, w' = w.drewN m) : Ints w' A n xs fp := by
  obtain ⟨m, rfl⟩ := k
  exact h
theorem Grid.drawn {w w' : World} {A : Option Addr} {n : Nat} {xs : List (List Int)} {fp : List Nat} (h : Grid w A n xs fp) (k : ∃ m, w' = w.drewN m) : Grid w' A n xs fp := by
  obtain ⟨m, rfl⟩ := k
  exact h
theorem drawn_more {w w' : World} (k : ∃ m, w' = w.drewN m) (n : Nat) : ∃ m, w'.drewN n = w.drewN m := by
  obtain ⟨m, rfl⟩ := k
  exact ⟨m + n, World.drewN_drewN ..⟩
theorem drawn_below {w w' : World} (k : ∃ m, w' = w.drewN m) : Below w.heap.size w w' := by
  obtain ⟨m, rfl⟩ := k
  exact below_drewN (Below.refl _ _) _
/-- How many numbers there are in all rows. -/
def sumLen (rs : List (List Int)) : Nat := (rs.map List.length).sum
theorem sumLen_take (rs : List (List Int)) (i : Nat) (h : i < rs.length) : sumLen (rs.take (i + 1)) = sumLen (rs.take i) + (rs.getD i []).length := by
  have e : rs.getD i [] = rs[i] := by simp [List.getD, List.getElem?_eq_getElem h]
  unfold sumLen
  rw [e, List.take_succ_eq_append_getElem h, List.map_append, List.sum_append]
  simp only [List.map_cons, List.map_nil, List.sum_cons, List.sum_nil, Nat.add_zero]
theorem sumLen_le (rs : List (List Int)) (i : Nat) : sumLen (rs.take i) ≤ sumLen rs := by
  unfold sumLen
  rw [List.map_take]
  have := List.sum_append (l₁ := (rs.map List.length).take i) (l₂ := (rs.map List.length).drop i)
  rw [List.take_append_drop] at this
  omega
theorem sumLen_row (rs : List (List Int)) (i : Nat) : (rs.getD i []).length ≤ sumLen rs := by
  by_cases h : i < rs.length
  · have := sumLen_take rs i h
    have := sumLen_le rs (i + 1)
    omega
  · simp [List.getD, List.getElem?_eq_none (Nat.le_of_not_lt h)]
theorem sumLen_whole (rs : List (List Int)) (n : Nat) (h : rs.length = n) : sumLen (rs.take n) = sumLen rs := by
  rw [List.take_of_length_le (by omega)]

/-- What counting leaves: a negative number, or what is left. -/
def Sized (n : Nat) (rs : List (List Int)) (left : Int) (w : World) (e : Ending) (w' : World) : Prop :=
  ∃ v : Int, e = .returned (.int .i64 v) ∧ w = w' ∧ (v < 0 ∨ (0 ≤ v ∧ v = left - n - sumLen rs))
end Go.Proofs.Ytlppmcflgbeolaa
