/- The laws' own functions on backgrounds. -/
import Derived.Test.YtfbpnneegenhgaaFldK
namespace Go.Proofs.Ytfbpnneegenhgaa
open Go.ChangeShapes Go.WideShapes Go.ChangeAt Go.RowKit
set_option linter.unusedVariables false

/-- What marking a background leaves. -/
def MarkedF (F : Fld) (A T : Option Addr) (k : Int) (fa ft : List Nat) (w : World) (e : Ending) (w' : World) : Prop :=
  e = .returned (.int .i64 (k + F.xs.length + (64 * F.nt : Nat))) ∧ Only (fa ++ ft) w w' ∧ Ints w' A F.xs.length (upFrom k F.xs.length) fa ∧ Ints w' T (64 * F.nt) (upFrom (k + F.xs.length) (64 * F.nt)) ft
end Go.Proofs.Ytfbpnneegenhgaa
