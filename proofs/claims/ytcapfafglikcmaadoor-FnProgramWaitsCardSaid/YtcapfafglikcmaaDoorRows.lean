/-
  NARROWER THAN 'FOR EVERY INPUT', by the rows' own cells (each row's printed sentence says how): FnStepMachine: laid · FnRunMachine: laid · FnRunUntil: laid · FnProgramWaits: laid.
  DERIVED. THE GIVEN ROWS OF THIS SEAT. 4 by the template 'for every input the law returns true; each argument reads behind the call as it read before'; 0 by the template 'total and deterministic' (their statements: YtcapfafglikcmaaDoorTotals.lean).
  GIVEN WITH THE SEED: the statements are not yours to turn. If you find one false, say at which input.
  Laid BY PROGRAM, IN A SANDBOX (cutbox-rows.mjs): the forced cells as the released guide's own fill.sh prints them over the translation fce90a6ea428e211… (all of the seat's roots in one cut). By AI agents, Wed Nov 11 2026. No macro, syntax, notation, axiom, sorry.
-/
import Derived.Test.YtcapfafglikcmaaDoorChecked
import GoSem.Claim
import GoSem.ClaimJoined
import GoSem.ClaimMapViews
import Derived.JoinedTies
import Derived.KernelRfl
namespace Go.Proofs.YtcapfafglikcmaaDoor
/- THE CELL 'sum', in the pinned program and in every row, IS THE sha256 OF THE DUMP (.gsa) THAT YtcapfafglikcmaaDoorProg.lean LOADS. Nothing in Lean hashes anything: it is a label: what it is worth is what the hold of that sum in a sandbox is worth. -/
noncomputable def Tryd.pinned : Pinned := { name := "ytcapfafglikcmaadoor", sum := "fce90a6ea428e211f352287b6e32905ba09b63490f755f2ef2ff0bb3f912b13c", checked := Tryd.checked }
namespace Rows
def none {H : Type} : Left H := { results := [], args := [] }

/- WHAT THE LISTED PACKAGE-LEVEL VARIABLES READ AS WHEN THE CALL BEGINS. Each datum BY PROGRAM (the guide's laid-datum.mjs) off the statement by which the dump's own 'gosem.cut.vars' lays the variable. In a bare row this is a premise. The card (YtcapfafglikcmaaDoorCards.lean) ties it to the program's text. -/
def laid_loop_example_homeconsole_impl_operations {H : Type} : DataW H := .agg [.agg [.lit (.string [119, 97, 105, 116]), .lit (.int .i64 1), .lit (.int .i64 0)], .agg [.lit (.string [115, 101, 116]), .lit (.int .i64 2), .lit (.int .i64 255)], .agg [.lit (.string [108, 111, 97, 100]), .lit (.int .i64 3), .lit (.int .i64 1023)], .agg [.lit (.string [115, 116, 111, 114, 101]), .lit (.int .i64 3), .lit (.int .i64 1023)], .agg [.lit (.string [97, 100, 100]), .lit (.int .i64 3), .lit (.int .i64 1023)], .agg [.lit (.string [115, 117, 98]), .lit (.int .i64 3), .lit (.int .i64 1023)], .agg [.lit (.string [97, 110, 100]), .lit (.int .i64 3), .lit (.int .i64 1023)], .agg [.lit (.string [120, 111, 114]), .lit (.int .i64 3), .lit (.int .i64 1023)], .agg [.lit (.string [108, 101, 102, 116]), .lit (.int .i64 1), .lit (.int .i64 0)], .agg [.lit (.string [114, 105, 103, 104, 116]), .lit (.int .i64 1), .lit (.int .i64 0)], .agg [.lit (.string [106, 117, 109, 112]), .lit (.int .i64 3), .lit (.int .i64 1023)], .agg [.lit (.string [122, 101, 114, 111]), .lit (.int .i64 3), .lit (.int .i64 1023)], .agg [.lit (.string [99, 97, 114, 114, 121]), .lit (.int .i64 3), .lit (.int .i64 1023)], .agg [.lit (.string [99, 97, 108, 108]), .lit (.int .i64 3), .lit (.int .i64 1023)], .agg [.lit (.string [114, 101, 116, 117, 114, 110]), .lit (.int .i64 1), .lit (.int .i64 0)], .agg [.lit (.string [115, 116, 111, 112]), .lit (.int .i64 1), .lit (.int .i64 0)]]

/-- 'laws.FnStepMachine': WHATEVER THE INPUT: true; the input reads as it did. -/
def fnStepMachineSpec : ChangeSpec := { name := "fnStepMachine", vars := ["loop.example/homeconsole/impl.operations"], fn := fun _ => fun
  | [d, g1] => { results := [.lit (.bool true)], args := [d], vars := [g1] }
  | _ => none }
def fnStepMachineRow : OpenClaim := { program := "ytcapfafglikcmaadoor", sum := "fce90a6ea428e211f352287b6e32905ba09b63490f755f2ef2ff0bb3f912b13c", func := "loop.example/homeconsole/laws.FnStepMachine", spec := "fnStepMachine", unfollowed := true, recurses := true, named := ["loop.example/homeconsole/impl.operations"], apart := false, laid := [("loop.example/homeconsole/impl.operations", laid_loop_example_homeconsole_impl_operations)] }
def FnStepMachineSaid : Prop := fnStepMachineRow.holds Tryd.pinned (OpenSpec.ofChange fnStepMachineSpec)

/-- ITS FALSE NEIGHBOUR: 'it returns false'. Refute it at one input. -/
def fnStepMachineWrong : ChangeSpec := { name := "fnStepMachine", vars := ["loop.example/homeconsole/impl.operations"], fn := fun _ => fun
  | [d, g1] => { results := [.lit (.bool false)], args := [d], vars := [g1] }
  | _ => none }
def FnStepMachineWrongFalsely : Prop := fnStepMachineRow.holds Tryd.pinned (OpenSpec.ofChange fnStepMachineWrong)

/-- 'laws.FnRunMachine': WHATEVER THE INPUT: true; the input reads as it did. -/
def fnRunMachineSpec : ChangeSpec := { name := "fnRunMachine", vars := ["loop.example/homeconsole/impl.operations"], fn := fun _ => fun
  | [d, g1] => { results := [.lit (.bool true)], args := [d], vars := [g1] }
  | _ => none }
def fnRunMachineRow : OpenClaim := { program := "ytcapfafglikcmaadoor", sum := "fce90a6ea428e211f352287b6e32905ba09b63490f755f2ef2ff0bb3f912b13c", func := "loop.example/homeconsole/laws.FnRunMachine", spec := "fnRunMachine", unfollowed := true, recurses := true, named := ["loop.example/homeconsole/impl.operations"], apart := false, laid := [("loop.example/homeconsole/impl.operations", laid_loop_example_homeconsole_impl_operations)] }
def FnRunMachineSaid : Prop := fnRunMachineRow.holds Tryd.pinned (OpenSpec.ofChange fnRunMachineSpec)

/-- ITS FALSE NEIGHBOUR: 'it returns false'. Refute it at one input. -/
def fnRunMachineWrong : ChangeSpec := { name := "fnRunMachine", vars := ["loop.example/homeconsole/impl.operations"], fn := fun _ => fun
  | [d, g1] => { results := [.lit (.bool false)], args := [d], vars := [g1] }
  | _ => none }
def FnRunMachineWrongFalsely : Prop := fnRunMachineRow.holds Tryd.pinned (OpenSpec.ofChange fnRunMachineWrong)

/-- 'laws.FnRunUntil': WHATEVER THE INPUT: true; the input reads as it did. -/
def fnRunUntilSpec : ChangeSpec := { name := "fnRunUntil", vars := ["loop.example/homeconsole/impl.operations"], fn := fun _ => fun
  | [d, g1] => { results := [.lit (.bool true)], args := [d], vars := [g1] }
  | _ => none }
def fnRunUntilRow : OpenClaim := { program := "ytcapfafglikcmaadoor", sum := "fce90a6ea428e211f352287b6e32905ba09b63490f755f2ef2ff0bb3f912b13c", func := "loop.example/homeconsole/laws.FnRunUntil", spec := "fnRunUntil", unfollowed := true, recurses := true, named := ["loop.example/homeconsole/impl.operations"], apart := false, laid := [("loop.example/homeconsole/impl.operations", laid_loop_example_homeconsole_impl_operations)] }
def FnRunUntilSaid : Prop := fnRunUntilRow.holds Tryd.pinned (OpenSpec.ofChange fnRunUntilSpec)

/-- ITS FALSE NEIGHBOUR: 'it returns false'. Refute it at one input. -/
def fnRunUntilWrong : ChangeSpec := { name := "fnRunUntil", vars := ["loop.example/homeconsole/impl.operations"], fn := fun _ => fun
  | [d, g1] => { results := [.lit (.bool false)], args := [d], vars := [g1] }
  | _ => none }
def FnRunUntilWrongFalsely : Prop := fnRunUntilRow.holds Tryd.pinned (OpenSpec.ofChange fnRunUntilWrong)

/-- 'laws.FnProgramWaits': WHATEVER THE INPUT: true; the input reads as it did. -/
def fnProgramWaitsSpec : ChangeSpec := { name := "fnProgramWaits", vars := ["loop.example/homeconsole/impl.operations"], fn := fun _ => fun
  | [d, g1] => { results := [.lit (.bool true)], args := [d], vars := [g1] }
  | _ => none }
def fnProgramWaitsRow : OpenClaim := { program := "ytcapfafglikcmaadoor", sum := "fce90a6ea428e211f352287b6e32905ba09b63490f755f2ef2ff0bb3f912b13c", func := "loop.example/homeconsole/laws.FnProgramWaits", spec := "fnProgramWaits", unfollowed := true, recurses := true, named := ["loop.example/homeconsole/impl.operations"], apart := false, laid := [("loop.example/homeconsole/impl.operations", laid_loop_example_homeconsole_impl_operations)] }
def FnProgramWaitsSaid : Prop := fnProgramWaitsRow.holds Tryd.pinned (OpenSpec.ofChange fnProgramWaitsSpec)

/-- ITS FALSE NEIGHBOUR: 'it returns false'. Refute it at one input. -/
def fnProgramWaitsWrong : ChangeSpec := { name := "fnProgramWaits", vars := ["loop.example/homeconsole/impl.operations"], fn := fun _ => fun
  | [d, g1] => { results := [.lit (.bool false)], args := [d], vars := [g1] }
  | _ => none }
def FnProgramWaitsWrongFalsely : Prop := fnProgramWaitsRow.holds Tryd.pinned (OpenSpec.ofChange fnProgramWaitsWrong)

/- THE SECOND FORM. 'bulk': how many values and letters a reading holds, each counted each time it is reached (what is shared counts as often as it is met; a slice's spare places count too). A statement '..UptoSaid' is the law's where the arguments, and the package variables that the reading takes, are together of bulk at most 1048576: NARROWER than '..Said'. Prove '..Said' where nothing that the law and all that it calls make is longer than what came in: it says more and counts as full. Else prove '..UptoSaid'. A law counts once. -/
mutual
def uptoBulk {H : Type} : DataW H → Nat
  | .lit (.string bytes) => bytes.length + 1
  | .lit _ => 1
  | .nil => 1
  | .ptr d => uptoBulk d + 1
  | .slice elems spare => uptoBulkAll elems + uptoBulkAll spare + 1
  | .agg parts => uptoBulkAll parts + 1
  | .iface _ d => uptoBulk d + 1
  | .map entries => uptoBulkEntries entries + 1
  | .held _ => 1
def uptoBulkAll {H : Type} : List (DataW H) → Nat
  | [] => 0
  | d :: r => uptoBulk d + uptoBulkAll r
def uptoBulkEntries {H : Type} : List (Lit × DataW H) → Nat
  | [] => 0
  | x :: r => uptoBulkEntry x + uptoBulkEntries r
def uptoBulkEntry {H : Type} : Lit × DataW H → Nat
  | (.string bytes, d) => bytes.length + uptoBulk d + 1
  | (_, d) => uptoBulk d + 1
 end
def uptoSmall : (H : Type) → List (DataW H) → Bool := fun _ ds => decide (uptoBulkAll ds ≤ 1048576)
def OpenSpec.upto (s : _root_.Go.ChangeSpec) : _root_.Go.OpenSpec := { _root_.Go.OpenSpec.ofChange s with cond := some uptoSmall }

/-- 'laws.FnStepMachine', WHERE WHAT IT READS IS OF BULK AT MOST 1048576: true; the input reads as it did. -/
def fnStepMachineUptoRow : OpenClaim := { program := "ytcapfafglikcmaadoor", sum := "fce90a6ea428e211f352287b6e32905ba09b63490f755f2ef2ff0bb3f912b13c", func := "loop.example/homeconsole/laws.FnStepMachine", spec := "fnStepMachine", unfollowed := true, recurses := true, named := ["loop.example/homeconsole/impl.operations"], apart := false, laid := [("loop.example/homeconsole/impl.operations", laid_loop_example_homeconsole_impl_operations)], narrowed := true }
def FnStepMachineUptoSaid : Prop := fnStepMachineUptoRow.holds Tryd.pinned (OpenSpec.upto fnStepMachineSpec)

/-- 'laws.FnRunMachine', WHERE WHAT IT READS IS OF BULK AT MOST 1048576: true; the input reads as it did. -/
def fnRunMachineUptoRow : OpenClaim := { program := "ytcapfafglikcmaadoor", sum := "fce90a6ea428e211f352287b6e32905ba09b63490f755f2ef2ff0bb3f912b13c", func := "loop.example/homeconsole/laws.FnRunMachine", spec := "fnRunMachine", unfollowed := true, recurses := true, named := ["loop.example/homeconsole/impl.operations"], apart := false, laid := [("loop.example/homeconsole/impl.operations", laid_loop_example_homeconsole_impl_operations)], narrowed := true }
def FnRunMachineUptoSaid : Prop := fnRunMachineUptoRow.holds Tryd.pinned (OpenSpec.upto fnRunMachineSpec)

/-- 'laws.FnRunUntil', WHERE WHAT IT READS IS OF BULK AT MOST 1048576: true; the input reads as it did. -/
def fnRunUntilUptoRow : OpenClaim := { program := "ytcapfafglikcmaadoor", sum := "fce90a6ea428e211f352287b6e32905ba09b63490f755f2ef2ff0bb3f912b13c", func := "loop.example/homeconsole/laws.FnRunUntil", spec := "fnRunUntil", unfollowed := true, recurses := true, named := ["loop.example/homeconsole/impl.operations"], apart := false, laid := [("loop.example/homeconsole/impl.operations", laid_loop_example_homeconsole_impl_operations)], narrowed := true }
def FnRunUntilUptoSaid : Prop := fnRunUntilUptoRow.holds Tryd.pinned (OpenSpec.upto fnRunUntilSpec)

/-- 'laws.FnProgramWaits', WHERE WHAT IT READS IS OF BULK AT MOST 1048576: true; the input reads as it did. -/
def fnProgramWaitsUptoRow : OpenClaim := { program := "ytcapfafglikcmaadoor", sum := "fce90a6ea428e211f352287b6e32905ba09b63490f755f2ef2ff0bb3f912b13c", func := "loop.example/homeconsole/laws.FnProgramWaits", spec := "fnProgramWaits", unfollowed := true, recurses := true, named := ["loop.example/homeconsole/impl.operations"], apart := false, laid := [("loop.example/homeconsole/impl.operations", laid_loop_example_homeconsole_impl_operations)], narrowed := true }
def FnProgramWaitsUptoSaid : Prop := fnProgramWaitsUptoRow.holds Tryd.pinned (OpenSpec.upto fnProgramWaitsSpec)

end Rows
end Go.Proofs.YtcapfafglikcmaaDoor
