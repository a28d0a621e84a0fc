/- The program's SpritesOnLine and SpritesHidden. -/
import Derived.Test.YtacebhncecninaaSprH
namespace Go.Proofs.Ytacebhncecninaa
open Go.ChangeShapes Go.WideShapes Go.ChangeAt Go.RowKit
set_option linter.unusedVariables false

theorem nums_take (l : List Nat) (k : Nat) : nums (l.take k) = (nums l).take k := by unfold nums; rw [List.map_take]
theorem onF_ints {w : World} {A : Option Addr} {n : Nat} {S : List Spr} {y : Int} {fp : List Nat} (h : Ints w A n (nums (allF S y)) fp) : Ints w A (min n 4) (nums (onF S y)) fp ∧ (onF S y).length = min n 4 := by
  have hl : (allF S y).length = n := by have := h.1; simpa [nums] using this
  have e : nums (onF S y) = (nums (allF S y)).take (min n 4) := by
    unfold onF
    rw [nums_take]
    by_cases h4 : n ≤ 4
    · rw [List.take_of_length_le (by have := h.1; omega), List.take_of_length_le (by have := h.1; omega)]
    · rw [show min n 4 = 4 by omega]
  refine ⟨by rw [e]; exact ints_take h _ (by omega) (by omega), ?_⟩
  unfold onF; rw [List.length_take, hl]; omega
end Go.Proofs.Ytacebhncecninaa
