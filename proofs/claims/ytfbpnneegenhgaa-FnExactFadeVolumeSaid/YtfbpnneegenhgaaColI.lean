/- Columns and lines: the program's two tests. -/
import Derived.Test.YtfbpnneegenhgaaFldM
import Derived.Test.YtfbpnneegenhgaaFldA
import Derived.Deep.Slices
import Derived.Laws.Slices
namespace Go.Proofs.Ytfbpnneegenhgaa
open Go.ChangeShapes Go.WideShapes Go.ChangeAt Go.RowKit
set_option linter.unusedVariables false

theorem betB_no {a l h : Int} (k : ¬ (l ≤ a ∧ a ≤ h)) : betB a l h = false := by
  cases e : betB a l h
  · rfl
  · exact absurd (betB_iff.1 e) k
end Go.Proofs.Ytfbpnneegenhgaa
