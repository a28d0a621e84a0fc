/-
  No cell of these rows narrows 'for every input' (looked for: loops, veiled, ifaces, maps, wideKeys, modest, calm, conditions, laid).
  DERIVED. THE GIVEN ROWS OF THIS SEAT. 12 by the template 'for every input the law returns true; each argument reads behind the call as it read before'; 0 by the template 'total and deterministic' (their statements: YtacebhncecninaaTotals.lean).
  GIVEN WITH THE SEED: the statements are not yours to turn. If you find one false, say at which input.
  Laid BY PROGRAM, IN A SANDBOX (cutbox-rows.mjs): the forced cells as the released guide's own fill.sh prints them over the translation 58bd02822e05bbe6… (all of the seat's roots in one cut). By AI agents, Wed Nov 11 2026. No macro, syntax, notation, axiom, sorry.
-/
import Derived.Test.YtacebhncecninaaChecked
import GoSem.Claim
import GoSem.ClaimJoined
import GoSem.ClaimMapViews
import Derived.JoinedTies
import Derived.KernelRfl
namespace Go.Proofs.Ytacebhncecninaa
/- THE CELL 'sum', in the pinned program and in every row, IS THE sha256 OF THE DUMP (.gsa) THAT YtacebhncecninaaProg.lean LOADS. Nothing in Lean hashes anything: it is a label: what it is worth is what the hold of that sum in a sandbox is worth. -/
noncomputable def Try.pinned : Pinned := { name := "ytacebhncecninaa", sum := "58bd02822e05bbe602dd537d13e849eb1e72c3ff37943bfec8d8470480a06fdf", checked := Try.checked }
namespace Rows
def none {H : Type} : Left H := { results := [], args := [] }

/-- 'laws.FnFieldLine': WHATEVER THE INPUT: true; the input reads as it did. -/
def fnFieldLineSpec : ChangeSpec := { name := "fnFieldLine", fn := fun _ => fun
  | [d] => { results := [.lit (.bool true)], args := [d] }
  | _ => none }
def fnFieldLineRow : OpenClaim := { program := "ytacebhncecninaa", sum := "58bd02822e05bbe602dd537d13e849eb1e72c3ff37943bfec8d8470480a06fdf", func := "loop.example/homeconsole/laws.FnFieldLine", spec := "fnFieldLine", apart := false }
def FnFieldLineSaid : Prop := fnFieldLineRow.holds Try.pinned (OpenSpec.ofChange fnFieldLineSpec)

/-- ITS FALSE NEIGHBOUR: 'it returns false'. Refute it at one input. -/
def fnFieldLineWrong : ChangeSpec := { name := "fnFieldLine", fn := fun _ => fun
  | [d] => { results := [.lit (.bool false)], args := [d] }
  | _ => none }
def FnFieldLineWrongFalsely : Prop := fnFieldLineRow.holds Try.pinned (OpenSpec.ofChange fnFieldLineWrong)

/-- 'laws.FnShiftField': WHATEVER THE INPUT: true; the input reads as it did. -/
def fnShiftFieldSpec : ChangeSpec := { name := "fnShiftField", fn := fun _ => fun
  | [d] => { results := [.lit (.bool true)], args := [d] }
  | _ => none }
def fnShiftFieldRow : OpenClaim := { program := "ytacebhncecninaa", sum := "58bd02822e05bbe602dd537d13e849eb1e72c3ff37943bfec8d8470480a06fdf", func := "loop.example/homeconsole/laws.FnShiftField", spec := "fnShiftField", apart := false }
def FnShiftFieldSaid : Prop := fnShiftFieldRow.holds Try.pinned (OpenSpec.ofChange fnShiftFieldSpec)

/-- ITS FALSE NEIGHBOUR: 'it returns false'. Refute it at one input. -/
def fnShiftFieldWrong : ChangeSpec := { name := "fnShiftField", fn := fun _ => fun
  | [d] => { results := [.lit (.bool false)], args := [d] }
  | _ => none }
def FnShiftFieldWrongFalsely : Prop := fnShiftFieldRow.holds Try.pinned (OpenSpec.ofChange fnShiftFieldWrong)

/-- 'laws.FnScenePixel': WHATEVER THE INPUT: true; the input reads as it did. -/
def fnScenePixelSpec : ChangeSpec := { name := "fnScenePixel", fn := fun _ => fun
  | [d] => { results := [.lit (.bool true)], args := [d] }
  | _ => none }
def fnScenePixelRow : OpenClaim := { program := "ytacebhncecninaa", sum := "58bd02822e05bbe602dd537d13e849eb1e72c3ff37943bfec8d8470480a06fdf", func := "loop.example/homeconsole/laws.FnScenePixel", spec := "fnScenePixel", unfollowed := true, recurses := true, apart := false }
def FnScenePixelSaid : Prop := fnScenePixelRow.holds Try.pinned (OpenSpec.ofChange fnScenePixelSpec)

/-- ITS FALSE NEIGHBOUR: 'it returns false'. Refute it at one input. -/
def fnScenePixelWrong : ChangeSpec := { name := "fnScenePixel", fn := fun _ => fun
  | [d] => { results := [.lit (.bool false)], args := [d] }
  | _ => none }
def FnScenePixelWrongFalsely : Prop := fnScenePixelRow.holds Try.pinned (OpenSpec.ofChange fnScenePixelWrong)

/-- 'laws.FnSceneLine': WHATEVER THE INPUT: true; the input reads as it did. -/
def fnSceneLineSpec : ChangeSpec := { name := "fnSceneLine", fn := fun _ => fun
  | [d] => { results := [.lit (.bool true)], args := [d] }
  | _ => none }
def fnSceneLineRow : OpenClaim := { program := "ytacebhncecninaa", sum := "58bd02822e05bbe602dd537d13e849eb1e72c3ff37943bfec8d8470480a06fdf", func := "loop.example/homeconsole/laws.FnSceneLine", spec := "fnSceneLine", unfollowed := true, recurses := true, apart := false }
def FnSceneLineSaid : Prop := fnSceneLineRow.holds Try.pinned (OpenSpec.ofChange fnSceneLineSpec)

/-- ITS FALSE NEIGHBOUR: 'it returns false'. Refute it at one input. -/
def fnSceneLineWrong : ChangeSpec := { name := "fnSceneLine", fn := fun _ => fun
  | [d] => { results := [.lit (.bool false)], args := [d] }
  | _ => none }
def FnSceneLineWrongFalsely : Prop := fnSceneLineRow.holds Try.pinned (OpenSpec.ofChange fnSceneLineWrong)

/-- 'laws.FnSceneHash': WHATEVER THE INPUT: true; the input reads as it did. -/
def fnSceneHashSpec : ChangeSpec := { name := "fnSceneHash", fn := fun _ => fun
  | [d] => { results := [.lit (.bool true)], args := [d] }
  | _ => none }
def fnSceneHashRow : OpenClaim := { program := "ytacebhncecninaa", sum := "58bd02822e05bbe602dd537d13e849eb1e72c3ff37943bfec8d8470480a06fdf", func := "loop.example/homeconsole/laws.FnSceneHash", spec := "fnSceneHash", unfollowed := true, recurses := true, apart := false }
def FnSceneHashSaid : Prop := fnSceneHashRow.holds Try.pinned (OpenSpec.ofChange fnSceneHashSpec)

/-- ITS FALSE NEIGHBOUR: 'it returns false'. Refute it at one input. -/
def fnSceneHashWrong : ChangeSpec := { name := "fnSceneHash", fn := fun _ => fun
  | [d] => { results := [.lit (.bool false)], args := [d] }
  | _ => none }
def FnSceneHashWrongFalsely : Prop := fnSceneHashRow.holds Try.pinned (OpenSpec.ofChange fnSceneHashWrong)

/-- 'laws.FnFirstTouch': WHATEVER THE INPUT: true; the input reads as it did. -/
def fnFirstTouchSpec : ChangeSpec := { name := "fnFirstTouch", fn := fun _ => fun
  | [d] => { results := [.lit (.bool true)], args := [d] }
  | _ => none }
def fnFirstTouchRow : OpenClaim := { program := "ytacebhncecninaa", sum := "58bd02822e05bbe602dd537d13e849eb1e72c3ff37943bfec8d8470480a06fdf", func := "loop.example/homeconsole/laws.FnFirstTouch", spec := "fnFirstTouch", unfollowed := true, recurses := true, apart := false }
def FnFirstTouchSaid : Prop := fnFirstTouchRow.holds Try.pinned (OpenSpec.ofChange fnFirstTouchSpec)

/-- ITS FALSE NEIGHBOUR: 'it returns false'. Refute it at one input. -/
def fnFirstTouchWrong : ChangeSpec := { name := "fnFirstTouch", fn := fun _ => fun
  | [d] => { results := [.lit (.bool false)], args := [d] }
  | _ => none }
def FnFirstTouchWrongFalsely : Prop := fnFirstTouchRow.holds Try.pinned (OpenSpec.ofChange fnFirstTouchWrong)

/-- 'laws.FnSceneBehind': WHATEVER THE INPUT: true; the input reads as it did. -/
def fnSceneBehindSpec : ChangeSpec := { name := "fnSceneBehind", fn := fun _ => fun
  | [d] => { results := [.lit (.bool true)], args := [d] }
  | _ => none }
def fnSceneBehindRow : OpenClaim := { program := "ytacebhncecninaa", sum := "58bd02822e05bbe602dd537d13e849eb1e72c3ff37943bfec8d8470480a06fdf", func := "loop.example/homeconsole/laws.FnSceneBehind", spec := "fnSceneBehind", unfollowed := true, recurses := true, apart := false }
def FnSceneBehindSaid : Prop := fnSceneBehindRow.holds Try.pinned (OpenSpec.ofChange fnSceneBehindSpec)

/-- ITS FALSE NEIGHBOUR: 'it returns false'. Refute it at one input. -/
def fnSceneBehindWrong : ChangeSpec := { name := "fnSceneBehind", fn := fun _ => fun
  | [d] => { results := [.lit (.bool false)], args := [d] }
  | _ => none }
def FnSceneBehindWrongFalsely : Prop := fnSceneBehindRow.holds Try.pinned (OpenSpec.ofChange fnSceneBehindWrong)

/-- 'laws.FnExactFieldLine': WHATEVER THE INPUT: true; the input reads as it did. -/
def fnExactFieldLineSpec : ChangeSpec := { name := "fnExactFieldLine", fn := fun _ => fun
  | [d1, d2] => { results := [.lit (.bool true)], args := [d1, d2] }
  | _ => none }
def fnExactFieldLineRow : OpenClaim := { program := "ytacebhncecninaa", sum := "58bd02822e05bbe602dd537d13e849eb1e72c3ff37943bfec8d8470480a06fdf", func := "loop.example/homeconsole/laws.FnExactFieldLine", spec := "fnExactFieldLine", apart := false }
def FnExactFieldLineSaid : Prop := fnExactFieldLineRow.holds Try.pinned (OpenSpec.ofChange fnExactFieldLineSpec)

/-- ITS FALSE NEIGHBOUR: 'it returns false'. Refute it at one input. -/
def fnExactFieldLineWrong : ChangeSpec := { name := "fnExactFieldLine", fn := fun _ => fun
  | [d1, d2] => { results := [.lit (.bool false)], args := [d1, d2] }
  | _ => none }
def FnExactFieldLineWrongFalsely : Prop := fnExactFieldLineRow.holds Try.pinned (OpenSpec.ofChange fnExactFieldLineWrong)

/-- 'laws.FnExactScenePixel': WHATEVER THE INPUT: true; the input reads as it did. -/
def fnExactScenePixelSpec : ChangeSpec := { name := "fnExactScenePixel", fn := fun _ => fun
  | [d1, d2, d3] => { results := [.lit (.bool true)], args := [d1, d2, d3] }
  | _ => none }
def fnExactScenePixelRow : OpenClaim := { program := "ytacebhncecninaa", sum := "58bd02822e05bbe602dd537d13e849eb1e72c3ff37943bfec8d8470480a06fdf", func := "loop.example/homeconsole/laws.FnExactScenePixel", spec := "fnExactScenePixel", unfollowed := true, recurses := true, apart := false }
def FnExactScenePixelSaid : Prop := fnExactScenePixelRow.holds Try.pinned (OpenSpec.ofChange fnExactScenePixelSpec)

/-- ITS FALSE NEIGHBOUR: 'it returns false'. Refute it at one input. -/
def fnExactScenePixelWrong : ChangeSpec := { name := "fnExactScenePixel", fn := fun _ => fun
  | [d1, d2, d3] => { results := [.lit (.bool false)], args := [d1, d2, d3] }
  | _ => none }
def FnExactScenePixelWrongFalsely : Prop := fnExactScenePixelRow.holds Try.pinned (OpenSpec.ofChange fnExactScenePixelWrong)

/-- 'laws.FnExactSceneLine': WHATEVER THE INPUT: true; the input reads as it did. -/
def fnExactSceneLineSpec : ChangeSpec := { name := "fnExactSceneLine", fn := fun _ => fun
  | [d1, d2] => { results := [.lit (.bool true)], args := [d1, d2] }
  | _ => none }
def fnExactSceneLineRow : OpenClaim := { program := "ytacebhncecninaa", sum := "58bd02822e05bbe602dd537d13e849eb1e72c3ff37943bfec8d8470480a06fdf", func := "loop.example/homeconsole/laws.FnExactSceneLine", spec := "fnExactSceneLine", unfollowed := true, recurses := true, apart := false }
def FnExactSceneLineSaid : Prop := fnExactSceneLineRow.holds Try.pinned (OpenSpec.ofChange fnExactSceneLineSpec)

/-- ITS FALSE NEIGHBOUR: 'it returns false'. Refute it at one input. -/
def fnExactSceneLineWrong : ChangeSpec := { name := "fnExactSceneLine", fn := fun _ => fun
  | [d1, d2] => { results := [.lit (.bool false)], args := [d1, d2] }
  | _ => none }
def FnExactSceneLineWrongFalsely : Prop := fnExactSceneLineRow.holds Try.pinned (OpenSpec.ofChange fnExactSceneLineWrong)

/-- 'laws.FnExactSceneHash': WHATEVER THE INPUT: true; the input reads as it did. -/
def fnExactSceneHashSpec : ChangeSpec := { name := "fnExactSceneHash", fn := fun _ => fun
  | [d] => { results := [.lit (.bool true)], args := [d] }
  | _ => none }
def fnExactSceneHashRow : OpenClaim := { program := "ytacebhncecninaa", sum := "58bd02822e05bbe602dd537d13e849eb1e72c3ff37943bfec8d8470480a06fdf", func := "loop.example/homeconsole/laws.FnExactSceneHash", spec := "fnExactSceneHash", unfollowed := true, recurses := true, apart := false }
def FnExactSceneHashSaid : Prop := fnExactSceneHashRow.holds Try.pinned (OpenSpec.ofChange fnExactSceneHashSpec)

/-- ITS FALSE NEIGHBOUR: 'it returns false'. Refute it at one input. -/
def fnExactSceneHashWrong : ChangeSpec := { name := "fnExactSceneHash", fn := fun _ => fun
  | [d] => { results := [.lit (.bool false)], args := [d] }
  | _ => none }
def FnExactSceneHashWrongFalsely : Prop := fnExactSceneHashRow.holds Try.pinned (OpenSpec.ofChange fnExactSceneHashWrong)

/-- 'laws.FnExactFirstTouch': WHATEVER THE INPUT: true; the input reads as it did. -/
def fnExactFirstTouchSpec : ChangeSpec := { name := "fnExactFirstTouch", fn := fun _ => fun
  | [d] => { results := [.lit (.bool true)], args := [d] }
  | _ => none }
def fnExactFirstTouchRow : OpenClaim := { program := "ytacebhncecninaa", sum := "58bd02822e05bbe602dd537d13e849eb1e72c3ff37943bfec8d8470480a06fdf", func := "loop.example/homeconsole/laws.FnExactFirstTouch", spec := "fnExactFirstTouch", unfollowed := true, recurses := true, apart := false }
def FnExactFirstTouchSaid : Prop := fnExactFirstTouchRow.holds Try.pinned (OpenSpec.ofChange fnExactFirstTouchSpec)

/-- ITS FALSE NEIGHBOUR: 'it returns false'. Refute it at one input. -/
def fnExactFirstTouchWrong : ChangeSpec := { name := "fnExactFirstTouch", fn := fun _ => fun
  | [d] => { results := [.lit (.bool false)], args := [d] }
  | _ => none }
def FnExactFirstTouchWrongFalsely : Prop := fnExactFirstTouchRow.holds Try.pinned (OpenSpec.ofChange fnExactFirstTouchWrong)

/- THE SECOND FORM. 'bulk': how many values and letters a reading holds, each counted each time it is reached (what is shared counts as often as it is met; a slice's spare places count too). A statement '..UptoSaid' is the law's where the arguments, and the package variables that the reading takes, are together of bulk at most 1048576: NARROWER than '..Said'. Prove '..Said' where nothing that the law and all that it calls make is longer than what came in: it says more and counts as full. Else prove '..UptoSaid'. A law counts once. -/
mutual
def uptoBulk {H : Type} : DataW H → Nat
  | .lit (.string bytes) => bytes.length + 1
  | .lit _ => 1
  | .nil => 1
  | .ptr d => uptoBulk d + 1
  | .slice elems spare => uptoBulkAll elems + uptoBulkAll spare + 1
  | .agg parts => uptoBulkAll parts + 1
  | .iface _ d => uptoBulk d + 1
  | .map entries => uptoBulkEntries entries + 1
  | .held _ => 1
def uptoBulkAll {H : Type} : List (DataW H) → Nat
  | [] => 0
  | d :: r => uptoBulk d + uptoBulkAll r
def uptoBulkEntries {H : Type} : List (Lit × DataW H) → Nat
  | [] => 0
  | x :: r => uptoBulkEntry x + uptoBulkEntries r
def uptoBulkEntry {H : Type} : Lit × DataW H → Nat
  | (.string bytes, d) => bytes.length + uptoBulk d + 1
  | (_, d) => uptoBulk d + 1
 end
def uptoSmall : (H : Type) → List (DataW H) → Bool := fun _ ds => decide (uptoBulkAll ds ≤ 1048576)
def OpenSpec.upto (s : _root_.Go.ChangeSpec) : _root_.Go.OpenSpec := { _root_.Go.OpenSpec.ofChange s with cond := some uptoSmall }

/-- 'laws.FnFieldLine', WHERE WHAT IT READS IS OF BULK AT MOST 1048576: true; the input reads as it did. -/
def fnFieldLineUptoRow : OpenClaim := { program := "ytacebhncecninaa", sum := "58bd02822e05bbe602dd537d13e849eb1e72c3ff37943bfec8d8470480a06fdf", func := "loop.example/homeconsole/laws.FnFieldLine", spec := "fnFieldLine", apart := false, narrowed := true }
def FnFieldLineUptoSaid : Prop := fnFieldLineUptoRow.holds Try.pinned (OpenSpec.upto fnFieldLineSpec)

/-- 'laws.FnShiftField', WHERE WHAT IT READS IS OF BULK AT MOST 1048576: true; the input reads as it did. -/
def fnShiftFieldUptoRow : OpenClaim := { program := "ytacebhncecninaa", sum := "58bd02822e05bbe602dd537d13e849eb1e72c3ff37943bfec8d8470480a06fdf", func := "loop.example/homeconsole/laws.FnShiftField", spec := "fnShiftField", apart := false, narrowed := true }
def FnShiftFieldUptoSaid : Prop := fnShiftFieldUptoRow.holds Try.pinned (OpenSpec.upto fnShiftFieldSpec)

/-- 'laws.FnScenePixel', WHERE WHAT IT READS IS OF BULK AT MOST 1048576: true; the input reads as it did. -/
def fnScenePixelUptoRow : OpenClaim := { program := "ytacebhncecninaa", sum := "58bd02822e05bbe602dd537d13e849eb1e72c3ff37943bfec8d8470480a06fdf", func := "loop.example/homeconsole/laws.FnScenePixel", spec := "fnScenePixel", unfollowed := true, recurses := true, apart := false, narrowed := true }
def FnScenePixelUptoSaid : Prop := fnScenePixelUptoRow.holds Try.pinned (OpenSpec.upto fnScenePixelSpec)

/-- 'laws.FnSceneLine', WHERE WHAT IT READS IS OF BULK AT MOST 1048576: true; the input reads as it did. -/
def fnSceneLineUptoRow : OpenClaim := { program := "ytacebhncecninaa", sum := "58bd02822e05bbe602dd537d13e849eb1e72c3ff37943bfec8d8470480a06fdf", func := "loop.example/homeconsole/laws.FnSceneLine", spec := "fnSceneLine", unfollowed := true, recurses := true, apart := false, narrowed := true }
def FnSceneLineUptoSaid : Prop := fnSceneLineUptoRow.holds Try.pinned (OpenSpec.upto fnSceneLineSpec)

/-- 'laws.FnSceneHash', WHERE WHAT IT READS IS OF BULK AT MOST 1048576: true; the input reads as it did. -/
def fnSceneHashUptoRow : OpenClaim := { program := "ytacebhncecninaa", sum := "58bd02822e05bbe602dd537d13e849eb1e72c3ff37943bfec8d8470480a06fdf", func := "loop.example/homeconsole/laws.FnSceneHash", spec := "fnSceneHash", unfollowed := true, recurses := true, apart := false, narrowed := true }
def FnSceneHashUptoSaid : Prop := fnSceneHashUptoRow.holds Try.pinned (OpenSpec.upto fnSceneHashSpec)

/-- 'laws.FnFirstTouch', WHERE WHAT IT READS IS OF BULK AT MOST 1048576: true; the input reads as it did. -/
def fnFirstTouchUptoRow : OpenClaim := { program := "ytacebhncecninaa", sum := "58bd02822e05bbe602dd537d13e849eb1e72c3ff37943bfec8d8470480a06fdf", func := "loop.example/homeconsole/laws.FnFirstTouch", spec := "fnFirstTouch", unfollowed := true, recurses := true, apart := false, narrowed := true }
def FnFirstTouchUptoSaid : Prop := fnFirstTouchUptoRow.holds Try.pinned (OpenSpec.upto fnFirstTouchSpec)

/-- 'laws.FnSceneBehind', WHERE WHAT IT READS IS OF BULK AT MOST 1048576: true; the input reads as it did. -/
def fnSceneBehindUptoRow : OpenClaim := { program := "ytacebhncecninaa", sum := "58bd02822e05bbe602dd537d13e849eb1e72c3ff37943bfec8d8470480a06fdf", func := "loop.example/homeconsole/laws.FnSceneBehind", spec := "fnSceneBehind", unfollowed := true, recurses := true, apart := false, narrowed := true }
def FnSceneBehindUptoSaid : Prop := fnSceneBehindUptoRow.holds Try.pinned (OpenSpec.upto fnSceneBehindSpec)

/-- 'laws.FnExactFieldLine', WHERE WHAT IT READS IS OF BULK AT MOST 1048576: true; the input reads as it did. -/
def fnExactFieldLineUptoRow : OpenClaim := { program := "ytacebhncecninaa", sum := "58bd02822e05bbe602dd537d13e849eb1e72c3ff37943bfec8d8470480a06fdf", func := "loop.example/homeconsole/laws.FnExactFieldLine", spec := "fnExactFieldLine", apart := false, narrowed := true }
def FnExactFieldLineUptoSaid : Prop := fnExactFieldLineUptoRow.holds Try.pinned (OpenSpec.upto fnExactFieldLineSpec)

/-- 'laws.FnExactScenePixel', WHERE WHAT IT READS IS OF BULK AT MOST 1048576: true; the input reads as it did. -/
def fnExactScenePixelUptoRow : OpenClaim := { program := "ytacebhncecninaa", sum := "58bd02822e05bbe602dd537d13e849eb1e72c3ff37943bfec8d8470480a06fdf", func := "loop.example/homeconsole/laws.FnExactScenePixel", spec := "fnExactScenePixel", unfollowed := true, recurses := true, apart := false, narrowed := true }
def FnExactScenePixelUptoSaid : Prop := fnExactScenePixelUptoRow.holds Try.pinned (OpenSpec.upto fnExactScenePixelSpec)

/-- 'laws.FnExactSceneLine', WHERE WHAT IT READS IS OF BULK AT MOST 1048576: true; the input reads as it did. -/
def fnExactSceneLineUptoRow : OpenClaim := { program := "ytacebhncecninaa", sum := "58bd02822e05bbe602dd537d13e849eb1e72c3ff37943bfec8d8470480a06fdf", func := "loop.example/homeconsole/laws.FnExactSceneLine", spec := "fnExactSceneLine", unfollowed := true, recurses := true, apart := false, narrowed := true }
def FnExactSceneLineUptoSaid : Prop := fnExactSceneLineUptoRow.holds Try.pinned (OpenSpec.upto fnExactSceneLineSpec)

/-- 'laws.FnExactSceneHash', WHERE WHAT IT READS IS OF BULK AT MOST 1048576: true; the input reads as it did. -/
def fnExactSceneHashUptoRow : OpenClaim := { program := "ytacebhncecninaa", sum := "58bd02822e05bbe602dd537d13e849eb1e72c3ff37943bfec8d8470480a06fdf", func := "loop.example/homeconsole/laws.FnExactSceneHash", spec := "fnExactSceneHash", unfollowed := true, recurses := true, apart := false, narrowed := true }
def FnExactSceneHashUptoSaid : Prop := fnExactSceneHashUptoRow.holds Try.pinned (OpenSpec.upto fnExactSceneHashSpec)

/-- 'laws.FnExactFirstTouch', WHERE WHAT IT READS IS OF BULK AT MOST 1048576: true; the input reads as it did. -/
def fnExactFirstTouchUptoRow : OpenClaim := { program := "ytacebhncecninaa", sum := "58bd02822e05bbe602dd537d13e849eb1e72c3ff37943bfec8d8470480a06fdf", func := "loop.example/homeconsole/laws.FnExactFirstTouch", spec := "fnExactFirstTouch", unfollowed := true, recurses := true, apart := false, narrowed := true }
def FnExactFirstTouchUptoSaid : Prop := fnExactFirstTouchUptoRow.holds Try.pinned (OpenSpec.upto fnExactFirstTouchSpec)

end Rows
end Go.Proofs.Ytacebhncecninaa
