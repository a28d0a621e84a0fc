/- What a walk is told of an argument that is a background. -/
import Derived.Test.YtfbpnneegenhgaaFldO
import Derived.Deep.Slices
namespace Go.Proofs.Ytfbpnneegenhgaa
open Go.ChangeShapes Go.WideShapes Go.ChangeAt Go.RowKit
set_option linter.unusedVariables false

/-- A background that came in. -/
def InFld (w : World) (A T : Option Addr) (F : Fld) : Prop := F.xs.length ≤ 9223372036854775807 ∧ F.nt ≤ 9223372036854775807 ∧ ∃ fa ft, FHas w A T F fa ft
section
variable {H : Type} {enc : TypeId × Value → H} {w : World} {base : Nat} {held : Bool}
set_option maxRecDepth 100000 in
theorem fiveL {α : Type} (l : List α) (h : l.length = 5) : ∃ c0 c1 c2 c3 c4, l = [c0, c1, c2, c3, c4] := by
  match l, h with
  | [c0, c1, c2, c3, c4], _ => exact ⟨c0, c1, c2, c3, c4, rfl⟩
end
end Go.Proofs.Ytfbpnneegenhgaa
