/-
  NARROWER THAN 'FOR EVERY INPUT', by the rows' own cells (each row's printed sentence says how): FnOrderLength: laid · FnOrderValid: laid · FnOrderBytes: laid · FnDecodeOrder: laid · FnOrderUnique: laid · FnExactOrderLength: laid · FnExactOrderValid: laid · FnExactOrderBytes: laid · FnExactDecodeOrder: laid.
  DERIVED. THE GIVEN ROWS OF THIS SEAT. 9 by the template 'for every input the law returns true; each argument reads behind the call as it read before'; 0 by the template 'total and deterministic' (their statements: YthndghhnpnaonaaDoorTotals.lean).
  GIVEN WITH THE SEED: the statements are not yours to turn. If you find one false, say at which input.
  Laid BY PROGRAM, IN A SANDBOX (cutbox-rows.mjs): the forced cells as the released guide's own fill.sh prints them over the translation 3ae63af768d7bf40… (all of the seat's roots in one cut). By AI agents, Wed Nov 11 2026. No macro, syntax, notation, axiom, sorry.
-/
import Derived.Test.YthndghhnpnaonaaDoorChecked
import GoSem.Claim
import GoSem.ClaimJoined
import GoSem.ClaimMapViews
import Derived.JoinedTies
import Derived.KernelRfl
namespace Go.Proofs.YthndghhnpnaonaaDoor
/- THE CELL 'sum', in the pinned program and in every row, IS THE sha256 OF THE DUMP (.gsa) THAT YthndghhnpnaonaaDoorProg.lean LOADS. Nothing in Lean hashes anything: it is a label: what it is worth is what the hold of that sum in a sandbox is worth. -/
noncomputable def Tryd.pinned : Pinned := { name := "ythndghhnpnaonaadoor", sum := "3ae63af768d7bf40625e03f95d247e59a40210389dda4acdded80e146742f2d9", checked := Tryd.checked }
namespace Rows
def none {H : Type} : Left H := { results := [], args := [] }

/- WHAT THE LISTED PACKAGE-LEVEL VARIABLES READ AS WHEN THE CALL BEGINS. Each datum BY PROGRAM (the guide's laid-datum.mjs) off the statement by which the dump's own 'gosem.cut.vars' lays the variable. In a bare row this is a premise. The card (YthndghhnpnaonaaDoorCards.lean) ties it to the program's text. -/
def laid_loop_example_homeconsole_impl_operations {H : Type} : DataW H := .agg [.agg [.lit (.string [119, 97, 105, 116]), .lit (.int .i64 1), .lit (.int .i64 0)], .agg [.lit (.string [115, 101, 116]), .lit (.int .i64 2), .lit (.int .i64 255)], .agg [.lit (.string [108, 111, 97, 100]), .lit (.int .i64 3), .lit (.int .i64 1023)], .agg [.lit (.string [115, 116, 111, 114, 101]), .lit (.int .i64 3), .lit (.int .i64 1023)], .agg [.lit (.string [97, 100, 100]), .lit (.int .i64 3), .lit (.int .i64 1023)], .agg [.lit (.string [115, 117, 98]), .lit (.int .i64 3), .lit (.int .i64 1023)], .agg [.lit (.string [97, 110, 100]), .lit (.int .i64 3), .lit (.int .i64 1023)], .agg [.lit (.string [120, 111, 114]), .lit (.int .i64 3), .lit (.int .i64 1023)], .agg [.lit (.string [108, 101, 102, 116]), .lit (.int .i64 1), .lit (.int .i64 0)], .agg [.lit (.string [114, 105, 103, 104, 116]), .lit (.int .i64 1), .lit (.int .i64 0)], .agg [.lit (.string [106, 117, 109, 112]), .lit (.int .i64 3), .lit (.int .i64 1023)], .agg [.lit (.string [122, 101, 114, 111]), .lit (.int .i64 3), .lit (.int .i64 1023)], .agg [.lit (.string [99, 97, 114, 114, 121]), .lit (.int .i64 3), .lit (.int .i64 1023)], .agg [.lit (.string [99, 97, 108, 108]), .lit (.int .i64 3), .lit (.int .i64 1023)], .agg [.lit (.string [114, 101, 116, 117, 114, 110]), .lit (.int .i64 1), .lit (.int .i64 0)], .agg [.lit (.string [115, 116, 111, 112]), .lit (.int .i64 1), .lit (.int .i64 0)]]

/-- 'laws.FnOrderLength': WHATEVER THE INPUT: true; the input reads as it did. -/
def fnOrderLengthSpec : ChangeSpec := { name := "fnOrderLength", vars := ["loop.example/homeconsole/impl.operations"], fn := fun _ => fun
  | [d, g1] => { results := [.lit (.bool true)], args := [d], vars := [g1] }
  | _ => none }
def fnOrderLengthRow : OpenClaim := { program := "ythndghhnpnaonaadoor", sum := "3ae63af768d7bf40625e03f95d247e59a40210389dda4acdded80e146742f2d9", func := "loop.example/homeconsole/laws.FnOrderLength", spec := "fnOrderLength", named := ["loop.example/homeconsole/impl.operations"], apart := false, laid := [("loop.example/homeconsole/impl.operations", laid_loop_example_homeconsole_impl_operations)] }
def FnOrderLengthSaid : Prop := fnOrderLengthRow.holds Tryd.pinned (OpenSpec.ofChange fnOrderLengthSpec)

/-- ITS FALSE NEIGHBOUR: 'it returns false'. Refute it at one input. -/
def fnOrderLengthWrong : ChangeSpec := { name := "fnOrderLength", vars := ["loop.example/homeconsole/impl.operations"], fn := fun _ => fun
  | [d, g1] => { results := [.lit (.bool false)], args := [d], vars := [g1] }
  | _ => none }
def FnOrderLengthWrongFalsely : Prop := fnOrderLengthRow.holds Tryd.pinned (OpenSpec.ofChange fnOrderLengthWrong)

/-- 'laws.FnOrderValid': WHATEVER THE INPUT: true; the input reads as it did. -/
def fnOrderValidSpec : ChangeSpec := { name := "fnOrderValid", vars := ["loop.example/homeconsole/impl.operations"], fn := fun _ => fun
  | [d, g1] => { results := [.lit (.bool true)], args := [d], vars := [g1] }
  | _ => none }
def fnOrderValidRow : OpenClaim := { program := "ythndghhnpnaonaadoor", sum := "3ae63af768d7bf40625e03f95d247e59a40210389dda4acdded80e146742f2d9", func := "loop.example/homeconsole/laws.FnOrderValid", spec := "fnOrderValid", named := ["loop.example/homeconsole/impl.operations"], apart := false, laid := [("loop.example/homeconsole/impl.operations", laid_loop_example_homeconsole_impl_operations)] }
def FnOrderValidSaid : Prop := fnOrderValidRow.holds Tryd.pinned (OpenSpec.ofChange fnOrderValidSpec)

/-- ITS FALSE NEIGHBOUR: 'it returns false'. Refute it at one input. -/
def fnOrderValidWrong : ChangeSpec := { name := "fnOrderValid", vars := ["loop.example/homeconsole/impl.operations"], fn := fun _ => fun
  | [d, g1] => { results := [.lit (.bool false)], args := [d], vars := [g1] }
  | _ => none }
def FnOrderValidWrongFalsely : Prop := fnOrderValidRow.holds Tryd.pinned (OpenSpec.ofChange fnOrderValidWrong)

/-- 'laws.FnOrderBytes': WHATEVER THE INPUT: true; the input reads as it did. -/
def fnOrderBytesSpec : ChangeSpec := { name := "fnOrderBytes", vars := ["loop.example/homeconsole/impl.operations"], fn := fun _ => fun
  | [d1, d2, g1] => { results := [.lit (.bool true)], args := [d1, d2], vars := [g1] }
  | _ => none }
def fnOrderBytesRow : OpenClaim := { program := "ythndghhnpnaonaadoor", sum := "3ae63af768d7bf40625e03f95d247e59a40210389dda4acdded80e146742f2d9", func := "loop.example/homeconsole/laws.FnOrderBytes", spec := "fnOrderBytes", named := ["loop.example/homeconsole/impl.operations"], apart := false, laid := [("loop.example/homeconsole/impl.operations", laid_loop_example_homeconsole_impl_operations)] }
def FnOrderBytesSaid : Prop := fnOrderBytesRow.holds Tryd.pinned (OpenSpec.ofChange fnOrderBytesSpec)

/-- ITS FALSE NEIGHBOUR: 'it returns false'. Refute it at one input. -/
def fnOrderBytesWrong : ChangeSpec := { name := "fnOrderBytes", vars := ["loop.example/homeconsole/impl.operations"], fn := fun _ => fun
  | [d1, d2, g1] => { results := [.lit (.bool false)], args := [d1, d2], vars := [g1] }
  | _ => none }
def FnOrderBytesWrongFalsely : Prop := fnOrderBytesRow.holds Tryd.pinned (OpenSpec.ofChange fnOrderBytesWrong)

/-- 'laws.FnDecodeOrder': WHATEVER THE INPUT: true; the input reads as it did. -/
def fnDecodeOrderSpec : ChangeSpec := { name := "fnDecodeOrder", vars := ["loop.example/homeconsole/impl.operations"], fn := fun _ => fun
  | [d, g1] => { results := [.lit (.bool true)], args := [d], vars := [g1] }
  | _ => none }
def fnDecodeOrderRow : OpenClaim := { program := "ythndghhnpnaonaadoor", sum := "3ae63af768d7bf40625e03f95d247e59a40210389dda4acdded80e146742f2d9", func := "loop.example/homeconsole/laws.FnDecodeOrder", spec := "fnDecodeOrder", named := ["loop.example/homeconsole/impl.operations"], apart := false, laid := [("loop.example/homeconsole/impl.operations", laid_loop_example_homeconsole_impl_operations)] }
def FnDecodeOrderSaid : Prop := fnDecodeOrderRow.holds Tryd.pinned (OpenSpec.ofChange fnDecodeOrderSpec)

/-- ITS FALSE NEIGHBOUR: 'it returns false'. Refute it at one input. -/
def fnDecodeOrderWrong : ChangeSpec := { name := "fnDecodeOrder", vars := ["loop.example/homeconsole/impl.operations"], fn := fun _ => fun
  | [d, g1] => { results := [.lit (.bool false)], args := [d], vars := [g1] }
  | _ => none }
def FnDecodeOrderWrongFalsely : Prop := fnDecodeOrderRow.holds Tryd.pinned (OpenSpec.ofChange fnDecodeOrderWrong)

/-- 'laws.FnOrderUnique': WHATEVER THE INPUT: true; the input reads as it did. -/
def fnOrderUniqueSpec : ChangeSpec := { name := "fnOrderUnique", vars := ["loop.example/homeconsole/impl.operations"], fn := fun _ => fun
  | [d1, d2, g1] => { results := [.lit (.bool true)], args := [d1, d2], vars := [g1] }
  | _ => none }
def fnOrderUniqueRow : OpenClaim := { program := "ythndghhnpnaonaadoor", sum := "3ae63af768d7bf40625e03f95d247e59a40210389dda4acdded80e146742f2d9", func := "loop.example/homeconsole/laws.FnOrderUnique", spec := "fnOrderUnique", named := ["loop.example/homeconsole/impl.operations"], apart := false, laid := [("loop.example/homeconsole/impl.operations", laid_loop_example_homeconsole_impl_operations)] }
def FnOrderUniqueSaid : Prop := fnOrderUniqueRow.holds Tryd.pinned (OpenSpec.ofChange fnOrderUniqueSpec)

/-- ITS FALSE NEIGHBOUR: 'it returns false'. Refute it at one input. -/
def fnOrderUniqueWrong : ChangeSpec := { name := "fnOrderUnique", vars := ["loop.example/homeconsole/impl.operations"], fn := fun _ => fun
  | [d1, d2, g1] => { results := [.lit (.bool false)], args := [d1, d2], vars := [g1] }
  | _ => none }
def FnOrderUniqueWrongFalsely : Prop := fnOrderUniqueRow.holds Tryd.pinned (OpenSpec.ofChange fnOrderUniqueWrong)

/-- 'laws.FnExactOrderLength': WHATEVER THE INPUT: true; the input reads as it did. -/
def fnExactOrderLengthSpec : ChangeSpec := { name := "fnExactOrderLength", vars := ["loop.example/homeconsole/impl.operations"], fn := fun _ => fun
  | [d, g1] => { results := [.lit (.bool true)], args := [d], vars := [g1] }
  | _ => none }
def fnExactOrderLengthRow : OpenClaim := { program := "ythndghhnpnaonaadoor", sum := "3ae63af768d7bf40625e03f95d247e59a40210389dda4acdded80e146742f2d9", func := "loop.example/homeconsole/laws.FnExactOrderLength", spec := "fnExactOrderLength", named := ["loop.example/homeconsole/impl.operations"], apart := false, laid := [("loop.example/homeconsole/impl.operations", laid_loop_example_homeconsole_impl_operations)] }
def FnExactOrderLengthSaid : Prop := fnExactOrderLengthRow.holds Tryd.pinned (OpenSpec.ofChange fnExactOrderLengthSpec)

/-- ITS FALSE NEIGHBOUR: 'it returns false'. Refute it at one input. -/
def fnExactOrderLengthWrong : ChangeSpec := { name := "fnExactOrderLength", vars := ["loop.example/homeconsole/impl.operations"], fn := fun _ => fun
  | [d, g1] => { results := [.lit (.bool false)], args := [d], vars := [g1] }
  | _ => none }
def FnExactOrderLengthWrongFalsely : Prop := fnExactOrderLengthRow.holds Tryd.pinned (OpenSpec.ofChange fnExactOrderLengthWrong)

/-- 'laws.FnExactOrderValid': WHATEVER THE INPUT: true; the input reads as it did. -/
def fnExactOrderValidSpec : ChangeSpec := { name := "fnExactOrderValid", vars := ["loop.example/homeconsole/impl.operations"], fn := fun _ => fun
  | [d, g1] => { results := [.lit (.bool true)], args := [d], vars := [g1] }
  | _ => none }
def fnExactOrderValidRow : OpenClaim := { program := "ythndghhnpnaonaadoor", sum := "3ae63af768d7bf40625e03f95d247e59a40210389dda4acdded80e146742f2d9", func := "loop.example/homeconsole/laws.FnExactOrderValid", spec := "fnExactOrderValid", named := ["loop.example/homeconsole/impl.operations"], apart := false, laid := [("loop.example/homeconsole/impl.operations", laid_loop_example_homeconsole_impl_operations)] }
def FnExactOrderValidSaid : Prop := fnExactOrderValidRow.holds Tryd.pinned (OpenSpec.ofChange fnExactOrderValidSpec)

/-- ITS FALSE NEIGHBOUR: 'it returns false'. Refute it at one input. -/
def fnExactOrderValidWrong : ChangeSpec := { name := "fnExactOrderValid", vars := ["loop.example/homeconsole/impl.operations"], fn := fun _ => fun
  | [d, g1] => { results := [.lit (.bool false)], args := [d], vars := [g1] }
  | _ => none }
def FnExactOrderValidWrongFalsely : Prop := fnExactOrderValidRow.holds Tryd.pinned (OpenSpec.ofChange fnExactOrderValidWrong)

/-- 'laws.FnExactOrderBytes': WHATEVER THE INPUT: true; the input reads as it did. -/
def fnExactOrderBytesSpec : ChangeSpec := { name := "fnExactOrderBytes", vars := ["loop.example/homeconsole/impl.operations"], fn := fun _ => fun
  | [d, g1] => { results := [.lit (.bool true)], args := [d], vars := [g1] }
  | _ => none }
def fnExactOrderBytesRow : OpenClaim := { program := "ythndghhnpnaonaadoor", sum := "3ae63af768d7bf40625e03f95d247e59a40210389dda4acdded80e146742f2d9", func := "loop.example/homeconsole/laws.FnExactOrderBytes", spec := "fnExactOrderBytes", named := ["loop.example/homeconsole/impl.operations"], apart := false, laid := [("loop.example/homeconsole/impl.operations", laid_loop_example_homeconsole_impl_operations)] }
def FnExactOrderBytesSaid : Prop := fnExactOrderBytesRow.holds Tryd.pinned (OpenSpec.ofChange fnExactOrderBytesSpec)

/-- ITS FALSE NEIGHBOUR: 'it returns false'. Refute it at one input. -/
def fnExactOrderBytesWrong : ChangeSpec := { name := "fnExactOrderBytes", vars := ["loop.example/homeconsole/impl.operations"], fn := fun _ => fun
  | [d, g1] => { results := [.lit (.bool false)], args := [d], vars := [g1] }
  | _ => none }
def FnExactOrderBytesWrongFalsely : Prop := fnExactOrderBytesRow.holds Tryd.pinned (OpenSpec.ofChange fnExactOrderBytesWrong)

/-- 'laws.FnExactDecodeOrder': WHATEVER THE INPUT: true; the input reads as it did. -/
def fnExactDecodeOrderSpec : ChangeSpec := { name := "fnExactDecodeOrder", vars := ["loop.example/homeconsole/impl.operations"], fn := fun _ => fun
  | [d1, d2, g1] => { results := [.lit (.bool true)], args := [d1, d2], vars := [g1] }
  | _ => none }
def fnExactDecodeOrderRow : OpenClaim := { program := "ythndghhnpnaonaadoor", sum := "3ae63af768d7bf40625e03f95d247e59a40210389dda4acdded80e146742f2d9", func := "loop.example/homeconsole/laws.FnExactDecodeOrder", spec := "fnExactDecodeOrder", named := ["loop.example/homeconsole/impl.operations"], apart := false, laid := [("loop.example/homeconsole/impl.operations", laid_loop_example_homeconsole_impl_operations)] }
def FnExactDecodeOrderSaid : Prop := fnExactDecodeOrderRow.holds Tryd.pinned (OpenSpec.ofChange fnExactDecodeOrderSpec)

/-- ITS FALSE NEIGHBOUR: 'it returns false'. Refute it at one input. -/
def fnExactDecodeOrderWrong : ChangeSpec := { name := "fnExactDecodeOrder", vars := ["loop.example/homeconsole/impl.operations"], fn := fun _ => fun
  | [d1, d2, g1] => { results := [.lit (.bool false)], args := [d1, d2], vars := [g1] }
  | _ => none }
def FnExactDecodeOrderWrongFalsely : Prop := fnExactDecodeOrderRow.holds Tryd.pinned (OpenSpec.ofChange fnExactDecodeOrderWrong)

/- THE SECOND FORM. 'bulk': how many values and letters a reading holds, each counted each time it is reached (what is shared counts as often as it is met; a slice's spare places count too). A statement '..UptoSaid' is the law's where the arguments, and the package variables that the reading takes, are together of bulk at most 1048576: NARROWER than '..Said'. Prove '..Said' where nothing that the law and all that it calls make is longer than what came in: it says more and counts as full. Else prove '..UptoSaid'. A law counts once. -/
mutual
def uptoBulk {H : Type} : DataW H → Nat
  | .lit (.string bytes) => bytes.length + 1
  | .lit _ => 1
  | .nil => 1
  | .ptr d => uptoBulk d + 1
  | .slice elems spare => uptoBulkAll elems + uptoBulkAll spare + 1
  | .agg parts => uptoBulkAll parts + 1
  | .iface _ d => uptoBulk d + 1
  | .map entries => uptoBulkEntries entries + 1
  | .held _ => 1
def uptoBulkAll {H : Type} : List (DataW H) → Nat
  | [] => 0
  | d :: r => uptoBulk d + uptoBulkAll r
def uptoBulkEntries {H : Type} : List (Lit × DataW H) → Nat
  | [] => 0
  | x :: r => uptoBulkEntry x + uptoBulkEntries r
def uptoBulkEntry {H : Type} : Lit × DataW H → Nat
  | (.string bytes, d) => bytes.length + uptoBulk d + 1
  | (_, d) => uptoBulk d + 1
 end
def uptoSmall : (H : Type) → List (DataW H) → Bool := fun _ ds => decide (uptoBulkAll ds ≤ 1048576)
def OpenSpec.upto (s : _root_.Go.ChangeSpec) : _root_.Go.OpenSpec := { _root_.Go.OpenSpec.ofChange s with cond := some uptoSmall }

/-- 'laws.FnOrderLength', WHERE WHAT IT READS IS OF BULK AT MOST 1048576: true; the input reads as it did. -/
def fnOrderLengthUptoRow : OpenClaim := { program := "ythndghhnpnaonaadoor", sum := "3ae63af768d7bf40625e03f95d247e59a40210389dda4acdded80e146742f2d9", func := "loop.example/homeconsole/laws.FnOrderLength", spec := "fnOrderLength", named := ["loop.example/homeconsole/impl.operations"], apart := false, laid := [("loop.example/homeconsole/impl.operations", laid_loop_example_homeconsole_impl_operations)], narrowed := true }
def FnOrderLengthUptoSaid : Prop := fnOrderLengthUptoRow.holds Tryd.pinned (OpenSpec.upto fnOrderLengthSpec)

/-- 'laws.FnOrderValid', WHERE WHAT IT READS IS OF BULK AT MOST 1048576: true; the input reads as it did. -/
def fnOrderValidUptoRow : OpenClaim := { program := "ythndghhnpnaonaadoor", sum := "3ae63af768d7bf40625e03f95d247e59a40210389dda4acdded80e146742f2d9", func := "loop.example/homeconsole/laws.FnOrderValid", spec := "fnOrderValid", named := ["loop.example/homeconsole/impl.operations"], apart := false, laid := [("loop.example/homeconsole/impl.operations", laid_loop_example_homeconsole_impl_operations)], narrowed := true }
def FnOrderValidUptoSaid : Prop := fnOrderValidUptoRow.holds Tryd.pinned (OpenSpec.upto fnOrderValidSpec)

/-- 'laws.FnOrderBytes', WHERE WHAT IT READS IS OF BULK AT MOST 1048576: true; the input reads as it did. -/
def fnOrderBytesUptoRow : OpenClaim := { program := "ythndghhnpnaonaadoor", sum := "3ae63af768d7bf40625e03f95d247e59a40210389dda4acdded80e146742f2d9", func := "loop.example/homeconsole/laws.FnOrderBytes", spec := "fnOrderBytes", named := ["loop.example/homeconsole/impl.operations"], apart := false, laid := [("loop.example/homeconsole/impl.operations", laid_loop_example_homeconsole_impl_operations)], narrowed := true }
def FnOrderBytesUptoSaid : Prop := fnOrderBytesUptoRow.holds Tryd.pinned (OpenSpec.upto fnOrderBytesSpec)

/-- 'laws.FnDecodeOrder', WHERE WHAT IT READS IS OF BULK AT MOST 1048576: true; the input reads as it did. -/
def fnDecodeOrderUptoRow : OpenClaim := { program := "ythndghhnpnaonaadoor", sum := "3ae63af768d7bf40625e03f95d247e59a40210389dda4acdded80e146742f2d9", func := "loop.example/homeconsole/laws.FnDecodeOrder", spec := "fnDecodeOrder", named := ["loop.example/homeconsole/impl.operations"], apart := false, laid := [("loop.example/homeconsole/impl.operations", laid_loop_example_homeconsole_impl_operations)], narrowed := true }
def FnDecodeOrderUptoSaid : Prop := fnDecodeOrderUptoRow.holds Tryd.pinned (OpenSpec.upto fnDecodeOrderSpec)

/-- 'laws.FnOrderUnique', WHERE WHAT IT READS IS OF BULK AT MOST 1048576: true; the input reads as it did. -/
def fnOrderUniqueUptoRow : OpenClaim := { program := "ythndghhnpnaonaadoor", sum := "3ae63af768d7bf40625e03f95d247e59a40210389dda4acdded80e146742f2d9", func := "loop.example/homeconsole/laws.FnOrderUnique", spec := "fnOrderUnique", named := ["loop.example/homeconsole/impl.operations"], apart := false, laid := [("loop.example/homeconsole/impl.operations", laid_loop_example_homeconsole_impl_operations)], narrowed := true }
def FnOrderUniqueUptoSaid : Prop := fnOrderUniqueUptoRow.holds Tryd.pinned (OpenSpec.upto fnOrderUniqueSpec)

/-- 'laws.FnExactOrderLength', WHERE WHAT IT READS IS OF BULK AT MOST 1048576: true; the input reads as it did. -/
def fnExactOrderLengthUptoRow : OpenClaim := { program := "ythndghhnpnaonaadoor", sum := "3ae63af768d7bf40625e03f95d247e59a40210389dda4acdded80e146742f2d9", func := "loop.example/homeconsole/laws.FnExactOrderLength", spec := "fnExactOrderLength", named := ["loop.example/homeconsole/impl.operations"], apart := false, laid := [("loop.example/homeconsole/impl.operations", laid_loop_example_homeconsole_impl_operations)], narrowed := true }
def FnExactOrderLengthUptoSaid : Prop := fnExactOrderLengthUptoRow.holds Tryd.pinned (OpenSpec.upto fnExactOrderLengthSpec)

/-- 'laws.FnExactOrderValid', WHERE WHAT IT READS IS OF BULK AT MOST 1048576: true; the input reads as it did. -/
def fnExactOrderValidUptoRow : OpenClaim := { program := "ythndghhnpnaonaadoor", sum := "3ae63af768d7bf40625e03f95d247e59a40210389dda4acdded80e146742f2d9", func := "loop.example/homeconsole/laws.FnExactOrderValid", spec := "fnExactOrderValid", named := ["loop.example/homeconsole/impl.operations"], apart := false, laid := [("loop.example/homeconsole/impl.operations", laid_loop_example_homeconsole_impl_operations)], narrowed := true }
def FnExactOrderValidUptoSaid : Prop := fnExactOrderValidUptoRow.holds Tryd.pinned (OpenSpec.upto fnExactOrderValidSpec)

/-- 'laws.FnExactOrderBytes', WHERE WHAT IT READS IS OF BULK AT MOST 1048576: true; the input reads as it did. -/
def fnExactOrderBytesUptoRow : OpenClaim := { program := "ythndghhnpnaonaadoor", sum := "3ae63af768d7bf40625e03f95d247e59a40210389dda4acdded80e146742f2d9", func := "loop.example/homeconsole/laws.FnExactOrderBytes", spec := "fnExactOrderBytes", named := ["loop.example/homeconsole/impl.operations"], apart := false, laid := [("loop.example/homeconsole/impl.operations", laid_loop_example_homeconsole_impl_operations)], narrowed := true }
def FnExactOrderBytesUptoSaid : Prop := fnExactOrderBytesUptoRow.holds Tryd.pinned (OpenSpec.upto fnExactOrderBytesSpec)

/-- 'laws.FnExactDecodeOrder', WHERE WHAT IT READS IS OF BULK AT MOST 1048576: true; the input reads as it did. -/
def fnExactDecodeOrderUptoRow : OpenClaim := { program := "ythndghhnpnaonaadoor", sum := "3ae63af768d7bf40625e03f95d247e59a40210389dda4acdded80e146742f2d9", func := "loop.example/homeconsole/laws.FnExactDecodeOrder", spec := "fnExactDecodeOrder", named := ["loop.example/homeconsole/impl.operations"], apart := false, laid := [("loop.example/homeconsole/impl.operations", laid_loop_example_homeconsole_impl_operations)], narrowed := true }
def FnExactDecodeOrderUptoSaid : Prop := fnExactDecodeOrderUptoRow.holds Tryd.pinned (OpenSpec.upto fnExactDecodeOrderSpec)

end Rows
end Go.Proofs.YthndghhnpnaonaaDoor
