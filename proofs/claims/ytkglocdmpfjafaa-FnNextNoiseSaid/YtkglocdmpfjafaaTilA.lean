/- Tiles as 64 plain numbers: the tests of the program and of the model. -/
import Derived.Test.YtkglocdmpfjafaaGA
import Derived.Deep.WholeRow
import Derived.IntWalk
import Derived.Deep.QuietTactic
import Derived.BigQuiet
import Derived.Deep.RegionLaw
namespace Go.Proofs.Ytkglocdmpfjafaa
open Go.ChangeShapes Go.WideShapes Go.ChangeAt Go.RowKit
set_option linter.unusedVariables false

/-- A tile's value. -/
abbrev tilV (px : List Int) : Value := .agg (iv px).toArray
theorem tilV_lit : (.agg #[.int .i64 1, .int .i64 2] : Value) = tilV [1, 2] := rfl
def tilB (px : List Int) : Bool := px.all fun x => betB x 0 3
theorem tilB_iff {px : List Int} : tilB px = true ↔ ∀ i, i < px.length → betB (px.getD i 0) 0 3 = true := by
  unfold tilB
  rw [List.all_eq_true]
  constructor
  · intro h i hi
    rw [List.getD_eq_getElem?_getD, List.getElem?_eq_getElem hi]
    exact h _ (List.getElem_mem hi)
  · intro h x hx
    obtain ⟨i, hi, rfl⟩ := List.mem_iff_getElem.1 hx
    have := h i hi
    rwa [List.getD_eq_getElem?_getD, List.getElem?_eq_getElem hi] at this
theorem tilB_no {px : List Int} (i : Nat) (hi : i < px.length) (h : betB (px.getD i 0) 0 3 = false) : tilB px = false := by
  cases e : tilB px
  · rfl
  · rw [tilB_iff.1 e i hi] at h; cases h
theorem til_cell {w : World} {b : Nat} {t : TypeId} {px : List Int} (h : Box w b t (iv px)) (i : Nat) (hi : i < px.length) : w.cell? ⟨b, i, none⟩ = some (.int .i64 (px.getD i 0)) := (h.cell i).trans (iv_at px i hi)
end Go.Proofs.Ytkglocdmpfjafaa
