/- Parts of a line are drawn at once. -/
import Derived.Test.YtddllcgbdgpkbaaBmG
import Derived.Test.YtddllcgbdgpkbaaFldD
namespace Go.Proofs.Ytddllcgbdgpkbaa
open Go.ChangeShapes Go.WideShapes Go.ChangeAt Go.RowKit
set_option linter.unusedVariables false

theorem fill_part {F : Fld} {R : List Int} {m j b : Nat} {y : Int} (h : chgK R m = true) (hj : j ≤ m) (hb : startK R j ≤ b) (hm : j = m ∨ (b : Int) ≤ cC R j) : fillK (withF F R j) y (partL F R m y (startK R j)) (startK R j) b = partL F R m y b := by
  unfold fillK
  unfold partL
  refine List.map_congr_left fun x hx => ?_
  have hx := List.mem_range.1 hx
  by_cases h1 : startK R j ≤ x
  · by_cases h2 : x < b
    · rw [if_pos ⟨h1, h2⟩, if_pos h2]
      unfold bmF
      rw [part_at h hj x h1 (by rcases hm with hm | hm; exact .inl hm; exact .inr (by omega))]
    · rw [if_neg (by omega), if_neg h2, List.getD_eq_getElem?_getD, List.getElem?_map, List.getElem?_range hx]
      simp only [Option.map_some, Option.getD_some]
      rw [if_neg (by omega)]
  · rw [if_neg (by omega), if_pos (by omega), List.getD_eq_getElem?_getD, List.getElem?_map, List.getElem?_range hx]
    simp only [Option.map_some, Option.getD_some]
    rw [if_pos (by omega)]
theorem part_zero (F : Fld) (R : List Int) (m : Nat) (y : Int) : partL F R m y (startK R 0) = z32 := by
  unfold partL z32 startK
  apply List.ext_getElem?
  intro i
  by_cases h : i < 32
  · rw [List.getElem?_map, List.getElem?_range h, List.getElem?_replicate, if_pos h]
    simp
  · rw [List.getElem?_eq_none (by simp; omega), List.getElem?_eq_none (by simp; omega)]
end Go.Proofs.Ytddllcgbdgpkbaa
