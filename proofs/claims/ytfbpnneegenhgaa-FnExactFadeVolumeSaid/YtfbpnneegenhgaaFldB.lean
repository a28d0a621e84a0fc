/- The program's FieldValid. -/
import Derived.Test.YtfbpnneegenhgaaFldA
namespace Go.Proofs.Ytfbpnneegenhgaa
open Go.ChangeShapes Go.WideShapes Go.ChangeAt Go.RowKit
set_option linter.unusedVariables false

/-- A background in memory: its table and its tiles. -/
def FHas (w : World) (A T : Option Addr) (F : Fld) (fa ft : List Nat) : Prop := Ints w A F.xs.length F.xs fa ∧ Ints w T (64 * F.nt) F.zs ft
theorem FHas.below {w w' : World} {A T : Option Addr} {F : Fld} {fa ft : List Nat} (h : FHas w A T F fa ft) (k : Below w.heap.size w w') : FHas w' A T F fa ft := ⟨h.1.below k, h.2.below k⟩
/-- A background's value. -/
abbrev fv (F : Fld) (A : Option Addr) (c : Nat) (T : Option Addr) (d : Nat) : Value := fldV F.w A F.xs.length c T F.nt d F.sx F.sy
def FSmall (F : Fld) : Prop := F.xs.length ≤ 1000000000 ∧ F.nt ≤ 1000000000
end Go.Proofs.Ytfbpnneegenhgaa
