/-
  No cell of these rows narrows 'for every input' (looked for: loops, veiled, ifaces, maps, wideKeys, modest, calm, conditions, laid).
  DERIVED. THE GIVEN ROWS OF THIS SEAT. 9 by the template 'for every input the law returns true; each argument reads behind the call as it read before'; 0 by the template 'total and deterministic' (their statements: YtmmngdofbmkmhaaTotals.lean).
  GIVEN WITH THE SEED: the statements are not yours to turn. If you find one false, say at which input.
  Laid BY PROGRAM, IN A SANDBOX (cutbox-rows.mjs): the forced cells as the released guide's own fill.sh prints them over the translation db211c3a6487bce8… (all of the seat's roots in one cut). By AI agents, Wed Nov 11 2026. No macro, syntax, notation, axiom, sorry.
-/
import Derived.Test.YtmmngdofbmkmhaaChecked
import GoSem.Claim
import GoSem.ClaimJoined
import GoSem.ClaimMapViews
import Derived.JoinedTies
import Derived.KernelRfl
namespace Go.Proofs.Ytmmngdofbmkmhaa
/- THE CELL 'sum', in the pinned program and in every row, IS THE sha256 OF THE DUMP (.gsa) THAT YtmmngdofbmkmhaaProg.lean LOADS. Nothing in Lean hashes anything: it is a label: what it is worth is what the hold of that sum in a sandbox is worth. -/
noncomputable def Try.pinned : Pinned := { name := "ytmmngdofbmkmhaa", sum := "db211c3a6487bce8a72dfcbd0481bbe4b9832bfc6949765ad7ebc77bad13e596", checked := Try.checked }
namespace Rows
def none {H : Type} : Left H := { results := [], args := [] }

/-- 'laws.FnTimerValid': WHATEVER THE INPUT: true; the input reads as it did. -/
def fnTimerValidSpec : ChangeSpec := { name := "fnTimerValid", fn := fun _ => fun
  | [d] => { results := [.lit (.bool true)], args := [d] }
  | _ => none }
def fnTimerValidRow : OpenClaim := { program := "ytmmngdofbmkmhaa", sum := "db211c3a6487bce8a72dfcbd0481bbe4b9832bfc6949765ad7ebc77bad13e596", func := "loop.example/homeconsole/laws.FnTimerValid", spec := "fnTimerValid", apart := false }
def FnTimerValidSaid : Prop := fnTimerValidRow.holds Try.pinned (OpenSpec.ofChange fnTimerValidSpec)

/-- ITS FALSE NEIGHBOUR: 'it returns false'. Refute it at one input. -/
def fnTimerValidWrong : ChangeSpec := { name := "fnTimerValid", fn := fun _ => fun
  | [d] => { results := [.lit (.bool false)], args := [d] }
  | _ => none }
def FnTimerValidWrongFalsely : Prop := fnTimerValidRow.holds Try.pinned (OpenSpec.ofChange fnTimerValidWrong)

/-- 'laws.FnTickTimer': WHATEVER THE INPUT: true; the input reads as it did. -/
def fnTickTimerSpec : ChangeSpec := { name := "fnTickTimer", fn := fun _ => fun
  | [d] => { results := [.lit (.bool true)], args := [d] }
  | _ => none }
def fnTickTimerRow : OpenClaim := { program := "ytmmngdofbmkmhaa", sum := "db211c3a6487bce8a72dfcbd0481bbe4b9832bfc6949765ad7ebc77bad13e596", func := "loop.example/homeconsole/laws.FnTickTimer", spec := "fnTickTimer", apart := false }
def FnTickTimerSaid : Prop := fnTickTimerRow.holds Try.pinned (OpenSpec.ofChange fnTickTimerSpec)

/-- ITS FALSE NEIGHBOUR: 'it returns false'. Refute it at one input. -/
def fnTickTimerWrong : ChangeSpec := { name := "fnTickTimer", fn := fun _ => fun
  | [d] => { results := [.lit (.bool false)], args := [d] }
  | _ => none }
def FnTickTimerWrongFalsely : Prop := fnTickTimerRow.holds Try.pinned (OpenSpec.ofChange fnTickTimerWrong)

/-- 'laws.FnSkipTimer': WHATEVER THE INPUT: true; the input reads as it did. -/
def fnSkipTimerSpec : ChangeSpec := { name := "fnSkipTimer", fn := fun _ => fun
  | [d] => { results := [.lit (.bool true)], args := [d] }
  | _ => none }
def fnSkipTimerRow : OpenClaim := { program := "ytmmngdofbmkmhaa", sum := "db211c3a6487bce8a72dfcbd0481bbe4b9832bfc6949765ad7ebc77bad13e596", func := "loop.example/homeconsole/laws.FnSkipTimer", spec := "fnSkipTimer", apart := false }
def FnSkipTimerSaid : Prop := fnSkipTimerRow.holds Try.pinned (OpenSpec.ofChange fnSkipTimerSpec)

/-- ITS FALSE NEIGHBOUR: 'it returns false'. Refute it at one input. -/
def fnSkipTimerWrong : ChangeSpec := { name := "fnSkipTimer", fn := fun _ => fun
  | [d] => { results := [.lit (.bool false)], args := [d] }
  | _ => none }
def FnSkipTimerWrongFalsely : Prop := fnSkipTimerRow.holds Try.pinned (OpenSpec.ofChange fnSkipTimerWrong)

/-- 'laws.FnNextFire': WHATEVER THE INPUT: true; the input reads as it did. -/
def fnNextFireSpec : ChangeSpec := { name := "fnNextFire", fn := fun _ => fun
  | [d] => { results := [.lit (.bool true)], args := [d] }
  | _ => none }
def fnNextFireRow : OpenClaim := { program := "ytmmngdofbmkmhaa", sum := "db211c3a6487bce8a72dfcbd0481bbe4b9832bfc6949765ad7ebc77bad13e596", func := "loop.example/homeconsole/laws.FnNextFire", spec := "fnNextFire", apart := false }
def FnNextFireSaid : Prop := fnNextFireRow.holds Try.pinned (OpenSpec.ofChange fnNextFireSpec)

/-- ITS FALSE NEIGHBOUR: 'it returns false'. Refute it at one input. -/
def fnNextFireWrong : ChangeSpec := { name := "fnNextFire", fn := fun _ => fun
  | [d] => { results := [.lit (.bool false)], args := [d] }
  | _ => none }
def FnNextFireWrongFalsely : Prop := fnNextFireRow.holds Try.pinned (OpenSpec.ofChange fnNextFireWrong)

/-- 'laws.FnTimerRate': WHATEVER THE INPUT: true; the input reads as it did. -/
def fnTimerRateSpec : ChangeSpec := { name := "fnTimerRate", fn := fun _ => fun
  | [d] => { results := [.lit (.bool true)], args := [d] }
  | _ => none }
def fnTimerRateRow : OpenClaim := { program := "ytmmngdofbmkmhaa", sum := "db211c3a6487bce8a72dfcbd0481bbe4b9832bfc6949765ad7ebc77bad13e596", func := "loop.example/homeconsole/laws.FnTimerRate", spec := "fnTimerRate", apart := false }
def FnTimerRateSaid : Prop := fnTimerRateRow.holds Try.pinned (OpenSpec.ofChange fnTimerRateSpec)

/-- ITS FALSE NEIGHBOUR: 'it returns false'. Refute it at one input. -/
def fnTimerRateWrong : ChangeSpec := { name := "fnTimerRate", fn := fun _ => fun
  | [d] => { results := [.lit (.bool false)], args := [d] }
  | _ => none }
def FnTimerRateWrongFalsely : Prop := fnTimerRateRow.holds Try.pinned (OpenSpec.ofChange fnTimerRateWrong)

/-- 'laws.FnExactTimerValid': WHATEVER THE INPUT: true; the input reads as it did. -/
def fnExactTimerValidSpec : ChangeSpec := { name := "fnExactTimerValid", fn := fun _ => fun
  | [d] => { results := [.lit (.bool true)], args := [d] }
  | _ => none }
def fnExactTimerValidRow : OpenClaim := { program := "ytmmngdofbmkmhaa", sum := "db211c3a6487bce8a72dfcbd0481bbe4b9832bfc6949765ad7ebc77bad13e596", func := "loop.example/homeconsole/laws.FnExactTimerValid", spec := "fnExactTimerValid", apart := false }
def FnExactTimerValidSaid : Prop := fnExactTimerValidRow.holds Try.pinned (OpenSpec.ofChange fnExactTimerValidSpec)

/-- ITS FALSE NEIGHBOUR: 'it returns false'. Refute it at one input. -/
def fnExactTimerValidWrong : ChangeSpec := { name := "fnExactTimerValid", fn := fun _ => fun
  | [d] => { results := [.lit (.bool false)], args := [d] }
  | _ => none }
def FnExactTimerValidWrongFalsely : Prop := fnExactTimerValidRow.holds Try.pinned (OpenSpec.ofChange fnExactTimerValidWrong)

/-- 'laws.FnExactTickTimer': WHATEVER THE INPUT: true; the input reads as it did. -/
def fnExactTickTimerSpec : ChangeSpec := { name := "fnExactTickTimer", fn := fun _ => fun
  | [d] => { results := [.lit (.bool true)], args := [d] }
  | _ => none }
def fnExactTickTimerRow : OpenClaim := { program := "ytmmngdofbmkmhaa", sum := "db211c3a6487bce8a72dfcbd0481bbe4b9832bfc6949765ad7ebc77bad13e596", func := "loop.example/homeconsole/laws.FnExactTickTimer", spec := "fnExactTickTimer", apart := false }
def FnExactTickTimerSaid : Prop := fnExactTickTimerRow.holds Try.pinned (OpenSpec.ofChange fnExactTickTimerSpec)

/-- ITS FALSE NEIGHBOUR: 'it returns false'. Refute it at one input. -/
def fnExactTickTimerWrong : ChangeSpec := { name := "fnExactTickTimer", fn := fun _ => fun
  | [d] => { results := [.lit (.bool false)], args := [d] }
  | _ => none }
def FnExactTickTimerWrongFalsely : Prop := fnExactTickTimerRow.holds Try.pinned (OpenSpec.ofChange fnExactTickTimerWrong)

/-- 'laws.FnExactSkipTimer': WHATEVER THE INPUT: true; the input reads as it did. -/
def fnExactSkipTimerSpec : ChangeSpec := { name := "fnExactSkipTimer", fn := fun _ => fun
  | [d1, d2] => { results := [.lit (.bool true)], args := [d1, d2] }
  | _ => none }
def fnExactSkipTimerRow : OpenClaim := { program := "ytmmngdofbmkmhaa", sum := "db211c3a6487bce8a72dfcbd0481bbe4b9832bfc6949765ad7ebc77bad13e596", func := "loop.example/homeconsole/laws.FnExactSkipTimer", spec := "fnExactSkipTimer", apart := false }
def FnExactSkipTimerSaid : Prop := fnExactSkipTimerRow.holds Try.pinned (OpenSpec.ofChange fnExactSkipTimerSpec)

/-- ITS FALSE NEIGHBOUR: 'it returns false'. Refute it at one input. -/
def fnExactSkipTimerWrong : ChangeSpec := { name := "fnExactSkipTimer", fn := fun _ => fun
  | [d1, d2] => { results := [.lit (.bool false)], args := [d1, d2] }
  | _ => none }
def FnExactSkipTimerWrongFalsely : Prop := fnExactSkipTimerRow.holds Try.pinned (OpenSpec.ofChange fnExactSkipTimerWrong)

/-- 'laws.FnExactNextFire': WHATEVER THE INPUT: true; the input reads as it did. -/
def fnExactNextFireSpec : ChangeSpec := { name := "fnExactNextFire", fn := fun _ => fun
  | [d] => { results := [.lit (.bool true)], args := [d] }
  | _ => none }
def fnExactNextFireRow : OpenClaim := { program := "ytmmngdofbmkmhaa", sum := "db211c3a6487bce8a72dfcbd0481bbe4b9832bfc6949765ad7ebc77bad13e596", func := "loop.example/homeconsole/laws.FnExactNextFire", spec := "fnExactNextFire", apart := false }
def FnExactNextFireSaid : Prop := fnExactNextFireRow.holds Try.pinned (OpenSpec.ofChange fnExactNextFireSpec)

/-- ITS FALSE NEIGHBOUR: 'it returns false'. Refute it at one input. -/
def fnExactNextFireWrong : ChangeSpec := { name := "fnExactNextFire", fn := fun _ => fun
  | [d] => { results := [.lit (.bool false)], args := [d] }
  | _ => none }
def FnExactNextFireWrongFalsely : Prop := fnExactNextFireRow.holds Try.pinned (OpenSpec.ofChange fnExactNextFireWrong)

/- THE SECOND FORM. 'bulk': how many values and letters a reading holds, each counted each time it is reached (what is shared counts as often as it is met; a slice's spare places count too). A statement '..UptoSaid' is the law's where the arguments, and the package variables that the reading takes, are together of bulk at most 1048576: NARROWER than '..Said'. Prove '..Said' where nothing that the law and all that it calls make is longer than what came in: it says more and counts as full. Else prove '..UptoSaid'. A law counts once. -/
mutual
def uptoBulk {H : Type} : DataW H → Nat
  | .lit (.string bytes) => bytes.length + 1
  | .lit _ => 1
  | .nil => 1
  | .ptr d => uptoBulk d + 1
  | .slice elems spare => uptoBulkAll elems + uptoBulkAll spare + 1
  | .agg parts => uptoBulkAll parts + 1
  | .iface _ d => uptoBulk d + 1
  | .map entries => uptoBulkEntries entries + 1
  | .held _ => 1
def uptoBulkAll {H : Type} : List (DataW H) → Nat
  | [] => 0
  | d :: r => uptoBulk d + uptoBulkAll r
def uptoBulkEntries {H : Type} : List (Lit × DataW H) → Nat
  | [] => 0
  | x :: r => uptoBulkEntry x + uptoBulkEntries r
def uptoBulkEntry {H : Type} : Lit × DataW H → Nat
  | (.string bytes, d) => bytes.length + uptoBulk d + 1
  | (_, d) => uptoBulk d + 1
 end
def uptoSmall : (H : Type) → List (DataW H) → Bool := fun _ ds => decide (uptoBulkAll ds ≤ 1048576)
def OpenSpec.upto (s : _root_.Go.ChangeSpec) : _root_.Go.OpenSpec := { _root_.Go.OpenSpec.ofChange s with cond := some uptoSmall }

/-- 'laws.FnTimerValid', WHERE WHAT IT READS IS OF BULK AT MOST 1048576: true; the input reads as it did. -/
def fnTimerValidUptoRow : OpenClaim := { program := "ytmmngdofbmkmhaa", sum := "db211c3a6487bce8a72dfcbd0481bbe4b9832bfc6949765ad7ebc77bad13e596", func := "loop.example/homeconsole/laws.FnTimerValid", spec := "fnTimerValid", apart := false, narrowed := true }
def FnTimerValidUptoSaid : Prop := fnTimerValidUptoRow.holds Try.pinned (OpenSpec.upto fnTimerValidSpec)

/-- 'laws.FnTickTimer', WHERE WHAT IT READS IS OF BULK AT MOST 1048576: true; the input reads as it did. -/
def fnTickTimerUptoRow : OpenClaim := { program := "ytmmngdofbmkmhaa", sum := "db211c3a6487bce8a72dfcbd0481bbe4b9832bfc6949765ad7ebc77bad13e596", func := "loop.example/homeconsole/laws.FnTickTimer", spec := "fnTickTimer", apart := false, narrowed := true }
def FnTickTimerUptoSaid : Prop := fnTickTimerUptoRow.holds Try.pinned (OpenSpec.upto fnTickTimerSpec)

/-- 'laws.FnSkipTimer', WHERE WHAT IT READS IS OF BULK AT MOST 1048576: true; the input reads as it did. -/
def fnSkipTimerUptoRow : OpenClaim := { program := "ytmmngdofbmkmhaa", sum := "db211c3a6487bce8a72dfcbd0481bbe4b9832bfc6949765ad7ebc77bad13e596", func := "loop.example/homeconsole/laws.FnSkipTimer", spec := "fnSkipTimer", apart := false, narrowed := true }
def FnSkipTimerUptoSaid : Prop := fnSkipTimerUptoRow.holds Try.pinned (OpenSpec.upto fnSkipTimerSpec)

/-- 'laws.FnNextFire', WHERE WHAT IT READS IS OF BULK AT MOST 1048576: true; the input reads as it did. -/
def fnNextFireUptoRow : OpenClaim := { program := "ytmmngdofbmkmhaa", sum := "db211c3a6487bce8a72dfcbd0481bbe4b9832bfc6949765ad7ebc77bad13e596", func := "loop.example/homeconsole/laws.FnNextFire", spec := "fnNextFire", apart := false, narrowed := true }
def FnNextFireUptoSaid : Prop := fnNextFireUptoRow.holds Try.pinned (OpenSpec.upto fnNextFireSpec)

/-- 'laws.FnTimerRate', WHERE WHAT IT READS IS OF BULK AT MOST 1048576: true; the input reads as it did. -/
def fnTimerRateUptoRow : OpenClaim := { program := "ytmmngdofbmkmhaa", sum := "db211c3a6487bce8a72dfcbd0481bbe4b9832bfc6949765ad7ebc77bad13e596", func := "loop.example/homeconsole/laws.FnTimerRate", spec := "fnTimerRate", apart := false, narrowed := true }
def FnTimerRateUptoSaid : Prop := fnTimerRateUptoRow.holds Try.pinned (OpenSpec.upto fnTimerRateSpec)

/-- 'laws.FnExactTimerValid', WHERE WHAT IT READS IS OF BULK AT MOST 1048576: true; the input reads as it did. -/
def fnExactTimerValidUptoRow : OpenClaim := { program := "ytmmngdofbmkmhaa", sum := "db211c3a6487bce8a72dfcbd0481bbe4b9832bfc6949765ad7ebc77bad13e596", func := "loop.example/homeconsole/laws.FnExactTimerValid", spec := "fnExactTimerValid", apart := false, narrowed := true }
def FnExactTimerValidUptoSaid : Prop := fnExactTimerValidUptoRow.holds Try.pinned (OpenSpec.upto fnExactTimerValidSpec)

/-- 'laws.FnExactTickTimer', WHERE WHAT IT READS IS OF BULK AT MOST 1048576: true; the input reads as it did. -/
def fnExactTickTimerUptoRow : OpenClaim := { program := "ytmmngdofbmkmhaa", sum := "db211c3a6487bce8a72dfcbd0481bbe4b9832bfc6949765ad7ebc77bad13e596", func := "loop.example/homeconsole/laws.FnExactTickTimer", spec := "fnExactTickTimer", apart := false, narrowed := true }
def FnExactTickTimerUptoSaid : Prop := fnExactTickTimerUptoRow.holds Try.pinned (OpenSpec.upto fnExactTickTimerSpec)

/-- 'laws.FnExactSkipTimer', WHERE WHAT IT READS IS OF BULK AT MOST 1048576: true; the input reads as it did. -/
def fnExactSkipTimerUptoRow : OpenClaim := { program := "ytmmngdofbmkmhaa", sum := "db211c3a6487bce8a72dfcbd0481bbe4b9832bfc6949765ad7ebc77bad13e596", func := "loop.example/homeconsole/laws.FnExactSkipTimer", spec := "fnExactSkipTimer", apart := false, narrowed := true }
def FnExactSkipTimerUptoSaid : Prop := fnExactSkipTimerUptoRow.holds Try.pinned (OpenSpec.upto fnExactSkipTimerSpec)

/-- 'laws.FnExactNextFire', WHERE WHAT IT READS IS OF BULK AT MOST 1048576: true; the input reads as it did. -/
def fnExactNextFireUptoRow : OpenClaim := { program := "ytmmngdofbmkmhaa", sum := "db211c3a6487bce8a72dfcbd0481bbe4b9832bfc6949765ad7ebc77bad13e596", func := "loop.example/homeconsole/laws.FnExactNextFire", spec := "fnExactNextFire", apart := false, narrowed := true }
def FnExactNextFireUptoSaid : Prop := fnExactNextFireUptoRow.holds Try.pinned (OpenSpec.upto fnExactNextFireSpec)

end Rows
end Go.Proofs.Ytmmngdofbmkmhaa
