/- The model's SpriteAt, whole. -/
import Derived.Test.YtacebhncecninaaSprF
namespace Go.Proofs.Ytacebhncecninaa
open Go.ChangeShapes Go.WideShapes Go.ChangeAt Go.RowKit
set_option linter.unusedVariables false

/-- A pair of numbers as a result. -/
def pairV (r : Int × Int) : Value := .tuple #[.int .i64 r.1, .int .i64 r.2]
end Go.Proofs.Ytacebhncecninaa
