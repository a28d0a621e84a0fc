/- The program's tests of backgrounds. -/
import Derived.Test.YtfbpnneegenhgaaFldM
import Derived.Test.YtfbpnneegenhgaaTilT
import Derived.Test.YtfbpnneegenhgaaTilY
import Derived.Test.YtfbpnneegenhgaaGrow
import Derived.Deep.MidRow
namespace Go.Proofs.Ytfbpnneegenhgaa
open Go.ChangeShapes Go.WideShapes Go.ChangeAt Go.RowKit
set_option linter.unusedVariables false

/-- A background's value. -/
abbrev fldV (W : Int) (A : Option Addr) (n c : Nat) (T : Option Addr) (m d : Nat) (sx sy : Int) : Value := .agg #[.int .i64 W, .slice A n c, .slice T m d, .int .i64 sx, .int .i64 sy]
end Go.Proofs.Ytfbpnneegenhgaa
