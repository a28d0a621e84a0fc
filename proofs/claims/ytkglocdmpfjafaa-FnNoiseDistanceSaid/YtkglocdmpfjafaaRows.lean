/-
  No cell of these rows narrows 'for every input' (looked for: loops, veiled, ifaces, maps, wideKeys, modest, calm, conditions, laid).
  DERIVED. THE GIVEN ROWS OF THIS SEAT. 7 by the template 'for every input the law returns true; each argument reads behind the call as it read before'; 0 by the template 'total and deterministic' (their statements: YtkglocdmpfjafaaTotals.lean).
  GIVEN WITH THE SEED: the statements are not yours to turn. If you find one false, say at which input.
  Laid BY PROGRAM, IN A SANDBOX (cutbox-rows.mjs): the forced cells as the released guide's own fill.sh prints them over the translation efd153e327ce2289… (all of the seat's roots in one cut). By AI agents, Wed Nov 11 2026. No macro, syntax, notation, axiom, sorry.
-/
import Derived.Test.YtkglocdmpfjafaaChecked
import GoSem.Claim
import GoSem.ClaimJoined
import GoSem.ClaimMapViews
import Derived.JoinedTies
import Derived.KernelRfl
namespace Go.Proofs.Ytkglocdmpfjafaa
/- THE CELL 'sum', in the pinned program and in every row, IS THE sha256 OF THE DUMP (.gsa) THAT YtkglocdmpfjafaaProg.lean LOADS. Nothing in Lean hashes anything: it is a label: what it is worth is what the hold of that sum in a sandbox is worth. -/
noncomputable def Try.pinned : Pinned := { name := "ytkglocdmpfjafaa", sum := "efd153e327ce22895ad02ab14a45d5e7e384353eb1d6d64530902abf972916f5", checked := Try.checked }
namespace Rows
def none {H : Type} : Left H := { results := [], args := [] }

/-- 'laws.FnNextNoise': WHATEVER THE INPUT: true; the input reads as it did. -/
def fnNextNoiseSpec : ChangeSpec := { name := "fnNextNoise", fn := fun _ => fun
  | [d] => { results := [.lit (.bool true)], args := [d] }
  | _ => none }
def fnNextNoiseRow : OpenClaim := { program := "ytkglocdmpfjafaa", sum := "efd153e327ce22895ad02ab14a45d5e7e384353eb1d6d64530902abf972916f5", func := "loop.example/homeconsole/laws.FnNextNoise", spec := "fnNextNoise", apart := false }
def FnNextNoiseSaid : Prop := fnNextNoiseRow.holds Try.pinned (OpenSpec.ofChange fnNextNoiseSpec)

/-- ITS FALSE NEIGHBOUR: 'it returns false'. Refute it at one input. -/
def fnNextNoiseWrong : ChangeSpec := { name := "fnNextNoise", fn := fun _ => fun
  | [d] => { results := [.lit (.bool false)], args := [d] }
  | _ => none }
def FnNextNoiseWrongFalsely : Prop := fnNextNoiseRow.holds Try.pinned (OpenSpec.ofChange fnNextNoiseWrong)

/-- 'laws.FnNoiseSamples': WHATEVER THE INPUT: true; the input reads as it did. -/
def fnNoiseSamplesSpec : ChangeSpec := { name := "fnNoiseSamples", fn := fun _ => fun
  | [d] => { results := [.lit (.bool true)], args := [d] }
  | _ => none }
def fnNoiseSamplesRow : OpenClaim := { program := "ytkglocdmpfjafaa", sum := "efd153e327ce22895ad02ab14a45d5e7e384353eb1d6d64530902abf972916f5", func := "loop.example/homeconsole/laws.FnNoiseSamples", spec := "fnNoiseSamples", apart := false }
def FnNoiseSamplesSaid : Prop := fnNoiseSamplesRow.holds Try.pinned (OpenSpec.ofChange fnNoiseSamplesSpec)

/-- ITS FALSE NEIGHBOUR: 'it returns false'. Refute it at one input. -/
def fnNoiseSamplesWrong : ChangeSpec := { name := "fnNoiseSamples", fn := fun _ => fun
  | [d] => { results := [.lit (.bool false)], args := [d] }
  | _ => none }
def FnNoiseSamplesWrongFalsely : Prop := fnNoiseSamplesRow.holds Try.pinned (OpenSpec.ofChange fnNoiseSamplesWrong)

/-- 'laws.FnNoiseDistance': WHATEVER THE INPUT: true; the input reads as it did. -/
def fnNoiseDistanceSpec : ChangeSpec := { name := "fnNoiseDistance", fn := fun _ => fun
  | [d] => { results := [.lit (.bool true)], args := [d] }
  | _ => none }
def fnNoiseDistanceRow : OpenClaim := { program := "ytkglocdmpfjafaa", sum := "efd153e327ce22895ad02ab14a45d5e7e384353eb1d6d64530902abf972916f5", func := "loop.example/homeconsole/laws.FnNoiseDistance", spec := "fnNoiseDistance", apart := false }
def FnNoiseDistanceSaid : Prop := fnNoiseDistanceRow.holds Try.pinned (OpenSpec.ofChange fnNoiseDistanceSpec)

/-- ITS FALSE NEIGHBOUR: 'it returns false'. Refute it at one input. -/
def fnNoiseDistanceWrong : ChangeSpec := { name := "fnNoiseDistance", fn := fun _ => fun
  | [d] => { results := [.lit (.bool false)], args := [d] }
  | _ => none }
def FnNoiseDistanceWrongFalsely : Prop := fnNoiseDistanceRow.holds Try.pinned (OpenSpec.ofChange fnNoiseDistanceWrong)

/-- 'laws.FnNoiseLinear': WHATEVER THE INPUT: true; the input reads as it did. -/
def fnNoiseLinearSpec : ChangeSpec := { name := "fnNoiseLinear", fn := fun _ => fun
  | [d] => { results := [.lit (.bool true)], args := [d] }
  | _ => none }
def fnNoiseLinearRow : OpenClaim := { program := "ytkglocdmpfjafaa", sum := "efd153e327ce22895ad02ab14a45d5e7e384353eb1d6d64530902abf972916f5", func := "loop.example/homeconsole/laws.FnNoiseLinear", spec := "fnNoiseLinear", apart := false }
def FnNoiseLinearSaid : Prop := fnNoiseLinearRow.holds Try.pinned (OpenSpec.ofChange fnNoiseLinearSpec)

/-- ITS FALSE NEIGHBOUR: 'it returns false'. Refute it at one input. -/
def fnNoiseLinearWrong : ChangeSpec := { name := "fnNoiseLinear", fn := fun _ => fun
  | [d] => { results := [.lit (.bool false)], args := [d] }
  | _ => none }
def FnNoiseLinearWrongFalsely : Prop := fnNoiseLinearRow.holds Try.pinned (OpenSpec.ofChange fnNoiseLinearWrong)

/-- 'laws.FnExactNextNoise': WHATEVER THE INPUT: true; the input reads as it did. -/
def fnExactNextNoiseSpec : ChangeSpec := { name := "fnExactNextNoise", fn := fun _ => fun
  | [d] => { results := [.lit (.bool true)], args := [d] }
  | _ => none }
def fnExactNextNoiseRow : OpenClaim := { program := "ytkglocdmpfjafaa", sum := "efd153e327ce22895ad02ab14a45d5e7e384353eb1d6d64530902abf972916f5", func := "loop.example/homeconsole/laws.FnExactNextNoise", spec := "fnExactNextNoise", apart := false }
def FnExactNextNoiseSaid : Prop := fnExactNextNoiseRow.holds Try.pinned (OpenSpec.ofChange fnExactNextNoiseSpec)

/-- ITS FALSE NEIGHBOUR: 'it returns false'. Refute it at one input. -/
def fnExactNextNoiseWrong : ChangeSpec := { name := "fnExactNextNoise", fn := fun _ => fun
  | [d] => { results := [.lit (.bool false)], args := [d] }
  | _ => none }
def FnExactNextNoiseWrongFalsely : Prop := fnExactNextNoiseRow.holds Try.pinned (OpenSpec.ofChange fnExactNextNoiseWrong)

/-- 'laws.FnExactNoiseSamples': WHATEVER THE INPUT: true; the input reads as it did. -/
def fnExactNoiseSamplesSpec : ChangeSpec := { name := "fnExactNoiseSamples", fn := fun _ => fun
  | [d1, d2] => { results := [.lit (.bool true)], args := [d1, d2] }
  | _ => none }
def fnExactNoiseSamplesRow : OpenClaim := { program := "ytkglocdmpfjafaa", sum := "efd153e327ce22895ad02ab14a45d5e7e384353eb1d6d64530902abf972916f5", func := "loop.example/homeconsole/laws.FnExactNoiseSamples", spec := "fnExactNoiseSamples", apart := false }
def FnExactNoiseSamplesSaid : Prop := fnExactNoiseSamplesRow.holds Try.pinned (OpenSpec.ofChange fnExactNoiseSamplesSpec)

/-- ITS FALSE NEIGHBOUR: 'it returns false'. Refute it at one input. -/
def fnExactNoiseSamplesWrong : ChangeSpec := { name := "fnExactNoiseSamples", fn := fun _ => fun
  | [d1, d2] => { results := [.lit (.bool false)], args := [d1, d2] }
  | _ => none }
def FnExactNoiseSamplesWrongFalsely : Prop := fnExactNoiseSamplesRow.holds Try.pinned (OpenSpec.ofChange fnExactNoiseSamplesWrong)

/-- 'laws.FnExactNoiseDistance': WHATEVER THE INPUT: true; the input reads as it did. -/
def fnExactNoiseDistanceSpec : ChangeSpec := { name := "fnExactNoiseDistance", fn := fun _ => fun
  | [d1, d2] => { results := [.lit (.bool true)], args := [d1, d2] }
  | _ => none }
def fnExactNoiseDistanceRow : OpenClaim := { program := "ytkglocdmpfjafaa", sum := "efd153e327ce22895ad02ab14a45d5e7e384353eb1d6d64530902abf972916f5", func := "loop.example/homeconsole/laws.FnExactNoiseDistance", spec := "fnExactNoiseDistance", apart := false }
def FnExactNoiseDistanceSaid : Prop := fnExactNoiseDistanceRow.holds Try.pinned (OpenSpec.ofChange fnExactNoiseDistanceSpec)

/-- ITS FALSE NEIGHBOUR: 'it returns false'. Refute it at one input. -/
def fnExactNoiseDistanceWrong : ChangeSpec := { name := "fnExactNoiseDistance", fn := fun _ => fun
  | [d1, d2] => { results := [.lit (.bool false)], args := [d1, d2] }
  | _ => none }
def FnExactNoiseDistanceWrongFalsely : Prop := fnExactNoiseDistanceRow.holds Try.pinned (OpenSpec.ofChange fnExactNoiseDistanceWrong)

/- THE SECOND FORM. 'bulk': how many values and letters a reading holds, each counted each time it is reached (what is shared counts as often as it is met; a slice's spare places count too). A statement '..UptoSaid' is the law's where the arguments, and the package variables that the reading takes, are together of bulk at most 1048576: NARROWER than '..Said'. Prove '..Said' where nothing that the law and all that it calls make is longer than what came in: it says more and counts as full. Else prove '..UptoSaid'. A law counts once. -/
mutual
def uptoBulk {H : Type} : DataW H → Nat
  | .lit (.string bytes) => bytes.length + 1
  | .lit _ => 1
  | .nil => 1
  | .ptr d => uptoBulk d + 1
  | .slice elems spare => uptoBulkAll elems + uptoBulkAll spare + 1
  | .agg parts => uptoBulkAll parts + 1
  | .iface _ d => uptoBulk d + 1
  | .map entries => uptoBulkEntries entries + 1
  | .held _ => 1
def uptoBulkAll {H : Type} : List (DataW H) → Nat
  | [] => 0
  | d :: r => uptoBulk d + uptoBulkAll r
def uptoBulkEntries {H : Type} : List (Lit × DataW H) → Nat
  | [] => 0
  | x :: r => uptoBulkEntry x + uptoBulkEntries r
def uptoBulkEntry {H : Type} : Lit × DataW H → Nat
  | (.string bytes, d) => bytes.length + uptoBulk d + 1
  | (_, d) => uptoBulk d + 1
 end
def uptoSmall : (H : Type) → List (DataW H) → Bool := fun _ ds => decide (uptoBulkAll ds ≤ 1048576)
def OpenSpec.upto (s : _root_.Go.ChangeSpec) : _root_.Go.OpenSpec := { _root_.Go.OpenSpec.ofChange s with cond := some uptoSmall }

/-- 'laws.FnNextNoise', WHERE WHAT IT READS IS OF BULK AT MOST 1048576: true; the input reads as it did. -/
def fnNextNoiseUptoRow : OpenClaim := { program := "ytkglocdmpfjafaa", sum := "efd153e327ce22895ad02ab14a45d5e7e384353eb1d6d64530902abf972916f5", func := "loop.example/homeconsole/laws.FnNextNoise", spec := "fnNextNoise", apart := false, narrowed := true }
def FnNextNoiseUptoSaid : Prop := fnNextNoiseUptoRow.holds Try.pinned (OpenSpec.upto fnNextNoiseSpec)

/-- 'laws.FnNoiseSamples', WHERE WHAT IT READS IS OF BULK AT MOST 1048576: true; the input reads as it did. -/
def fnNoiseSamplesUptoRow : OpenClaim := { program := "ytkglocdmpfjafaa", sum := "efd153e327ce22895ad02ab14a45d5e7e384353eb1d6d64530902abf972916f5", func := "loop.example/homeconsole/laws.FnNoiseSamples", spec := "fnNoiseSamples", apart := false, narrowed := true }
def FnNoiseSamplesUptoSaid : Prop := fnNoiseSamplesUptoRow.holds Try.pinned (OpenSpec.upto fnNoiseSamplesSpec)

/-- 'laws.FnNoiseDistance', WHERE WHAT IT READS IS OF BULK AT MOST 1048576: true; the input reads as it did. -/
def fnNoiseDistanceUptoRow : OpenClaim := { program := "ytkglocdmpfjafaa", sum := "efd153e327ce22895ad02ab14a45d5e7e384353eb1d6d64530902abf972916f5", func := "loop.example/homeconsole/laws.FnNoiseDistance", spec := "fnNoiseDistance", apart := false, narrowed := true }
def FnNoiseDistanceUptoSaid : Prop := fnNoiseDistanceUptoRow.holds Try.pinned (OpenSpec.upto fnNoiseDistanceSpec)

/-- 'laws.FnNoiseLinear', WHERE WHAT IT READS IS OF BULK AT MOST 1048576: true; the input reads as it did. -/
def fnNoiseLinearUptoRow : OpenClaim := { program := "ytkglocdmpfjafaa", sum := "efd153e327ce22895ad02ab14a45d5e7e384353eb1d6d64530902abf972916f5", func := "loop.example/homeconsole/laws.FnNoiseLinear", spec := "fnNoiseLinear", apart := false, narrowed := true }
def FnNoiseLinearUptoSaid : Prop := fnNoiseLinearUptoRow.holds Try.pinned (OpenSpec.upto fnNoiseLinearSpec)

/-- 'laws.FnExactNextNoise', WHERE WHAT IT READS IS OF BULK AT MOST 1048576: true; the input reads as it did. -/
def fnExactNextNoiseUptoRow : OpenClaim := { program := "ytkglocdmpfjafaa", sum := "efd153e327ce22895ad02ab14a45d5e7e384353eb1d6d64530902abf972916f5", func := "loop.example/homeconsole/laws.FnExactNextNoise", spec := "fnExactNextNoise", apart := false, narrowed := true }
def FnExactNextNoiseUptoSaid : Prop := fnExactNextNoiseUptoRow.holds Try.pinned (OpenSpec.upto fnExactNextNoiseSpec)

/-- 'laws.FnExactNoiseSamples', WHERE WHAT IT READS IS OF BULK AT MOST 1048576: true; the input reads as it did. -/
def fnExactNoiseSamplesUptoRow : OpenClaim := { program := "ytkglocdmpfjafaa", sum := "efd153e327ce22895ad02ab14a45d5e7e384353eb1d6d64530902abf972916f5", func := "loop.example/homeconsole/laws.FnExactNoiseSamples", spec := "fnExactNoiseSamples", apart := false, narrowed := true }
def FnExactNoiseSamplesUptoSaid : Prop := fnExactNoiseSamplesUptoRow.holds Try.pinned (OpenSpec.upto fnExactNoiseSamplesSpec)

/-- 'laws.FnExactNoiseDistance', WHERE WHAT IT READS IS OF BULK AT MOST 1048576: true; the input reads as it did. -/
def fnExactNoiseDistanceUptoRow : OpenClaim := { program := "ytkglocdmpfjafaa", sum := "efd153e327ce22895ad02ab14a45d5e7e384353eb1d6d64530902abf972916f5", func := "loop.example/homeconsole/laws.FnExactNoiseDistance", spec := "fnExactNoiseDistance", apart := false, narrowed := true }
def FnExactNoiseDistanceUptoSaid : Prop := fnExactNoiseDistanceUptoRow.holds Try.pinned (OpenSpec.upto fnExactNoiseDistanceSpec)

end Rows
end Go.Proofs.Ytkglocdmpfjafaa
