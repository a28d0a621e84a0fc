/-
  No cell of these rows narrows 'for every input' (looked for: loops, veiled, ifaces, maps, wideKeys, modest, calm, conditions, laid).
  DERIVED. THE GIVEN ROWS OF THIS SEAT. 11 by the template 'for every input the law returns true; each argument reads behind the call as it read before'; 0 by the template 'total and deterministic' (their statements: YtbboebmfdahgpaaTotals.lean).
  GIVEN WITH THE SEED: the statements are not yours to turn. If you find one false, say at which input.
  Laid BY PROGRAM, IN A SANDBOX (cutbox-rows.mjs): the forced cells as the released guide's own fill.sh prints them over the translation fa496e1189e7c208… (all of the seat's roots in one cut). By AI agents, Wed Nov 11 2026. No macro, syntax, notation, axiom, sorry.
-/
import Derived.Test.YtbboebmfdahgpaaChecked
import GoSem.Claim
import GoSem.ClaimJoined
import GoSem.ClaimMapViews
import Derived.JoinedTies
import Derived.KernelRfl
namespace Go.Proofs.Ytbboebmfdahgpaa
/- THE CELL 'sum', in the pinned program and in every row, IS THE sha256 OF THE DUMP (.gsa) THAT YtbboebmfdahgpaaProg.lean LOADS. Nothing in Lean hashes anything: it is a label: what it is worth is what the hold of that sum in a sandbox is worth. -/
noncomputable def Try.pinned : Pinned := { name := "ytbboebmfdahgpaa", sum := "fa496e1189e7c2085ca0f1ea4ab4fdf385b3945beac7360b76db9fbf8cc842b2", checked := Try.checked }
namespace Rows
def none {H : Type} : Left H := { results := [], args := [] }

/-- 'laws.FnColorValid': WHATEVER THE INPUT: true; the input reads as it did. -/
def fnColorValidSpec : ChangeSpec := { name := "fnColorValid", fn := fun _ => fun
  | [d] => { results := [.lit (.bool true)], args := [d] }
  | _ => none }
def fnColorValidRow : OpenClaim := { program := "ytbboebmfdahgpaa", sum := "fa496e1189e7c2085ca0f1ea4ab4fdf385b3945beac7360b76db9fbf8cc842b2", func := "loop.example/homeconsole/laws.FnColorValid", spec := "fnColorValid", apart := false }
def FnColorValidSaid : Prop := fnColorValidRow.holds Try.pinned (OpenSpec.ofChange fnColorValidSpec)

/-- ITS FALSE NEIGHBOUR: 'it returns false'. Refute it at one input. -/
def fnColorValidWrong : ChangeSpec := { name := "fnColorValid", fn := fun _ => fun
  | [d] => { results := [.lit (.bool false)], args := [d] }
  | _ => none }
def FnColorValidWrongFalsely : Prop := fnColorValidRow.holds Try.pinned (OpenSpec.ofChange fnColorValidWrong)

/-- 'laws.FnPackColor': WHATEVER THE INPUT: true; the input reads as it did. -/
def fnPackColorSpec : ChangeSpec := { name := "fnPackColor", fn := fun _ => fun
  | [d] => { results := [.lit (.bool true)], args := [d] }
  | _ => none }
def fnPackColorRow : OpenClaim := { program := "ytbboebmfdahgpaa", sum := "fa496e1189e7c2085ca0f1ea4ab4fdf385b3945beac7360b76db9fbf8cc842b2", func := "loop.example/homeconsole/laws.FnPackColor", spec := "fnPackColor", apart := false }
def FnPackColorSaid : Prop := fnPackColorRow.holds Try.pinned (OpenSpec.ofChange fnPackColorSpec)

/-- ITS FALSE NEIGHBOUR: 'it returns false'. Refute it at one input. -/
def fnPackColorWrong : ChangeSpec := { name := "fnPackColor", fn := fun _ => fun
  | [d] => { results := [.lit (.bool false)], args := [d] }
  | _ => none }
def FnPackColorWrongFalsely : Prop := fnPackColorRow.holds Try.pinned (OpenSpec.ofChange fnPackColorWrong)

/-- 'laws.FnUnpackColor': WHATEVER THE INPUT: true; the input reads as it did. -/
def fnUnpackColorSpec : ChangeSpec := { name := "fnUnpackColor", fn := fun _ => fun
  | [d] => { results := [.lit (.bool true)], args := [d] }
  | _ => none }
def fnUnpackColorRow : OpenClaim := { program := "ytbboebmfdahgpaa", sum := "fa496e1189e7c2085ca0f1ea4ab4fdf385b3945beac7360b76db9fbf8cc842b2", func := "loop.example/homeconsole/laws.FnUnpackColor", spec := "fnUnpackColor", apart := false }
def FnUnpackColorSaid : Prop := fnUnpackColorRow.holds Try.pinned (OpenSpec.ofChange fnUnpackColorSpec)

/-- ITS FALSE NEIGHBOUR: 'it returns false'. Refute it at one input. -/
def fnUnpackColorWrong : ChangeSpec := { name := "fnUnpackColor", fn := fun _ => fun
  | [d] => { results := [.lit (.bool false)], args := [d] }
  | _ => none }
def FnUnpackColorWrongFalsely : Prop := fnUnpackColorRow.holds Try.pinned (OpenSpec.ofChange fnUnpackColorWrong)

/-- 'laws.FnMixColors': WHATEVER THE INPUT: true; the input reads as it did. -/
def fnMixColorsSpec : ChangeSpec := { name := "fnMixColors", fn := fun _ => fun
  | [d] => { results := [.lit (.bool true)], args := [d] }
  | _ => none }
def fnMixColorsRow : OpenClaim := { program := "ytbboebmfdahgpaa", sum := "fa496e1189e7c2085ca0f1ea4ab4fdf385b3945beac7360b76db9fbf8cc842b2", func := "loop.example/homeconsole/laws.FnMixColors", spec := "fnMixColors", apart := false }
def FnMixColorsSaid : Prop := fnMixColorsRow.holds Try.pinned (OpenSpec.ofChange fnMixColorsSpec)

/-- ITS FALSE NEIGHBOUR: 'it returns false'. Refute it at one input. -/
def fnMixColorsWrong : ChangeSpec := { name := "fnMixColors", fn := fun _ => fun
  | [d] => { results := [.lit (.bool false)], args := [d] }
  | _ => none }
def FnMixColorsWrongFalsely : Prop := fnMixColorsRow.holds Try.pinned (OpenSpec.ofChange fnMixColorsWrong)

/-- 'laws.FnFadeColor': WHATEVER THE INPUT: true; the input reads as it did. -/
def fnFadeColorSpec : ChangeSpec := { name := "fnFadeColor", fn := fun _ => fun
  | [d] => { results := [.lit (.bool true)], args := [d] }
  | _ => none }
def fnFadeColorRow : OpenClaim := { program := "ytbboebmfdahgpaa", sum := "fa496e1189e7c2085ca0f1ea4ab4fdf385b3945beac7360b76db9fbf8cc842b2", func := "loop.example/homeconsole/laws.FnFadeColor", spec := "fnFadeColor", apart := false }
def FnFadeColorSaid : Prop := fnFadeColorRow.holds Try.pinned (OpenSpec.ofChange fnFadeColorSpec)

/-- ITS FALSE NEIGHBOUR: 'it returns false'. Refute it at one input. -/
def fnFadeColorWrong : ChangeSpec := { name := "fnFadeColor", fn := fun _ => fun
  | [d] => { results := [.lit (.bool false)], args := [d] }
  | _ => none }
def FnFadeColorWrongFalsely : Prop := fnFadeColorRow.holds Try.pinned (OpenSpec.ofChange fnFadeColorWrong)

/-- 'laws.FnFadeHalf': WHATEVER THE INPUT: true; the input reads as it did. -/
def fnFadeHalfSpec : ChangeSpec := { name := "fnFadeHalf", fn := fun _ => fun
  | [d] => { results := [.lit (.bool true)], args := [d] }
  | _ => none }
def fnFadeHalfRow : OpenClaim := { program := "ytbboebmfdahgpaa", sum := "fa496e1189e7c2085ca0f1ea4ab4fdf385b3945beac7360b76db9fbf8cc842b2", func := "loop.example/homeconsole/laws.FnFadeHalf", spec := "fnFadeHalf", apart := false }
def FnFadeHalfSaid : Prop := fnFadeHalfRow.holds Try.pinned (OpenSpec.ofChange fnFadeHalfSpec)

/-- ITS FALSE NEIGHBOUR: 'it returns false'. Refute it at one input. -/
def fnFadeHalfWrong : ChangeSpec := { name := "fnFadeHalf", fn := fun _ => fun
  | [d] => { results := [.lit (.bool false)], args := [d] }
  | _ => none }
def FnFadeHalfWrongFalsely : Prop := fnFadeHalfRow.holds Try.pinned (OpenSpec.ofChange fnFadeHalfWrong)

/-- 'laws.FnExactColorValid': WHATEVER THE INPUT: true; the input reads as it did. -/
def fnExactColorValidSpec : ChangeSpec := { name := "fnExactColorValid", fn := fun _ => fun
  | [d] => { results := [.lit (.bool true)], args := [d] }
  | _ => none }
def fnExactColorValidRow : OpenClaim := { program := "ytbboebmfdahgpaa", sum := "fa496e1189e7c2085ca0f1ea4ab4fdf385b3945beac7360b76db9fbf8cc842b2", func := "loop.example/homeconsole/laws.FnExactColorValid", spec := "fnExactColorValid", apart := false }
def FnExactColorValidSaid : Prop := fnExactColorValidRow.holds Try.pinned (OpenSpec.ofChange fnExactColorValidSpec)

/-- ITS FALSE NEIGHBOUR: 'it returns false'. Refute it at one input. -/
def fnExactColorValidWrong : ChangeSpec := { name := "fnExactColorValid", fn := fun _ => fun
  | [d] => { results := [.lit (.bool false)], args := [d] }
  | _ => none }
def FnExactColorValidWrongFalsely : Prop := fnExactColorValidRow.holds Try.pinned (OpenSpec.ofChange fnExactColorValidWrong)

/-- 'laws.FnExactPackColor': WHATEVER THE INPUT: true; the input reads as it did. -/
def fnExactPackColorSpec : ChangeSpec := { name := "fnExactPackColor", fn := fun _ => fun
  | [d] => { results := [.lit (.bool true)], args := [d] }
  | _ => none }
def fnExactPackColorRow : OpenClaim := { program := "ytbboebmfdahgpaa", sum := "fa496e1189e7c2085ca0f1ea4ab4fdf385b3945beac7360b76db9fbf8cc842b2", func := "loop.example/homeconsole/laws.FnExactPackColor", spec := "fnExactPackColor", apart := false }
def FnExactPackColorSaid : Prop := fnExactPackColorRow.holds Try.pinned (OpenSpec.ofChange fnExactPackColorSpec)

/-- ITS FALSE NEIGHBOUR: 'it returns false'. Refute it at one input. -/
def fnExactPackColorWrong : ChangeSpec := { name := "fnExactPackColor", fn := fun _ => fun
  | [d] => { results := [.lit (.bool false)], args := [d] }
  | _ => none }
def FnExactPackColorWrongFalsely : Prop := fnExactPackColorRow.holds Try.pinned (OpenSpec.ofChange fnExactPackColorWrong)

/-- 'laws.FnExactUnpackColor': WHATEVER THE INPUT: true; the input reads as it did. -/
def fnExactUnpackColorSpec : ChangeSpec := { name := "fnExactUnpackColor", fn := fun _ => fun
  | [d] => { results := [.lit (.bool true)], args := [d] }
  | _ => none }
def fnExactUnpackColorRow : OpenClaim := { program := "ytbboebmfdahgpaa", sum := "fa496e1189e7c2085ca0f1ea4ab4fdf385b3945beac7360b76db9fbf8cc842b2", func := "loop.example/homeconsole/laws.FnExactUnpackColor", spec := "fnExactUnpackColor", apart := false }
def FnExactUnpackColorSaid : Prop := fnExactUnpackColorRow.holds Try.pinned (OpenSpec.ofChange fnExactUnpackColorSpec)

/-- ITS FALSE NEIGHBOUR: 'it returns false'. Refute it at one input. -/
def fnExactUnpackColorWrong : ChangeSpec := { name := "fnExactUnpackColor", fn := fun _ => fun
  | [d] => { results := [.lit (.bool false)], args := [d] }
  | _ => none }
def FnExactUnpackColorWrongFalsely : Prop := fnExactUnpackColorRow.holds Try.pinned (OpenSpec.ofChange fnExactUnpackColorWrong)

/-- 'laws.FnExactMixColors': WHATEVER THE INPUT: true; the input reads as it did. -/
def fnExactMixColorsSpec : ChangeSpec := { name := "fnExactMixColors", fn := fun _ => fun
  | [d1, d2] => { results := [.lit (.bool true)], args := [d1, d2] }
  | _ => none }
def fnExactMixColorsRow : OpenClaim := { program := "ytbboebmfdahgpaa", sum := "fa496e1189e7c2085ca0f1ea4ab4fdf385b3945beac7360b76db9fbf8cc842b2", func := "loop.example/homeconsole/laws.FnExactMixColors", spec := "fnExactMixColors", apart := false }
def FnExactMixColorsSaid : Prop := fnExactMixColorsRow.holds Try.pinned (OpenSpec.ofChange fnExactMixColorsSpec)

/-- ITS FALSE NEIGHBOUR: 'it returns false'. Refute it at one input. -/
def fnExactMixColorsWrong : ChangeSpec := { name := "fnExactMixColors", fn := fun _ => fun
  | [d1, d2] => { results := [.lit (.bool false)], args := [d1, d2] }
  | _ => none }
def FnExactMixColorsWrongFalsely : Prop := fnExactMixColorsRow.holds Try.pinned (OpenSpec.ofChange fnExactMixColorsWrong)

/-- 'laws.FnExactFadeColor': WHATEVER THE INPUT: true; the input reads as it did. -/
def fnExactFadeColorSpec : ChangeSpec := { name := "fnExactFadeColor", fn := fun _ => fun
  | [d1, d2] => { results := [.lit (.bool true)], args := [d1, d2] }
  | _ => none }
def fnExactFadeColorRow : OpenClaim := { program := "ytbboebmfdahgpaa", sum := "fa496e1189e7c2085ca0f1ea4ab4fdf385b3945beac7360b76db9fbf8cc842b2", func := "loop.example/homeconsole/laws.FnExactFadeColor", spec := "fnExactFadeColor", apart := false }
def FnExactFadeColorSaid : Prop := fnExactFadeColorRow.holds Try.pinned (OpenSpec.ofChange fnExactFadeColorSpec)

/-- ITS FALSE NEIGHBOUR: 'it returns false'. Refute it at one input. -/
def fnExactFadeColorWrong : ChangeSpec := { name := "fnExactFadeColor", fn := fun _ => fun
  | [d1, d2] => { results := [.lit (.bool false)], args := [d1, d2] }
  | _ => none }
def FnExactFadeColorWrongFalsely : Prop := fnExactFadeColorRow.holds Try.pinned (OpenSpec.ofChange fnExactFadeColorWrong)

/- THE SECOND FORM. 'bulk': how many values and letters a reading holds, each counted each time it is reached (what is shared counts as often as it is met; a slice's spare places count too). A statement '..UptoSaid' is the law's where the arguments, and the package variables that the reading takes, are together of bulk at most 1048576: NARROWER than '..Said'. Prove '..Said' where nothing that the law and all that it calls make is longer than what came in: it says more and counts as full. Else prove '..UptoSaid'. A law counts once. -/
mutual
def uptoBulk {H : Type} : DataW H → Nat
  | .lit (.string bytes) => bytes.length + 1
  | .lit _ => 1
  | .nil => 1
  | .ptr d => uptoBulk d + 1
  | .slice elems spare => uptoBulkAll elems + uptoBulkAll spare + 1
  | .agg parts => uptoBulkAll parts + 1
  | .iface _ d => uptoBulk d + 1
  | .map entries => uptoBulkEntries entries + 1
  | .held _ => 1
def uptoBulkAll {H : Type} : List (DataW H) → Nat
  | [] => 0
  | d :: r => uptoBulk d + uptoBulkAll r
def uptoBulkEntries {H : Type} : List (Lit × DataW H) → Nat
  | [] => 0
  | x :: r => uptoBulkEntry x + uptoBulkEntries r
def uptoBulkEntry {H : Type} : Lit × DataW H → Nat
  | (.string bytes, d) => bytes.length + uptoBulk d + 1
  | (_, d) => uptoBulk d + 1
 end
def uptoSmall : (H : Type) → List (DataW H) → Bool := fun _ ds => decide (uptoBulkAll ds ≤ 1048576)
def OpenSpec.upto (s : _root_.Go.ChangeSpec) : _root_.Go.OpenSpec := { _root_.Go.OpenSpec.ofChange s with cond := some uptoSmall }

/-- 'laws.FnColorValid', WHERE WHAT IT READS IS OF BULK AT MOST 1048576: true; the input reads as it did. -/
def fnColorValidUptoRow : OpenClaim := { program := "ytbboebmfdahgpaa", sum := "fa496e1189e7c2085ca0f1ea4ab4fdf385b3945beac7360b76db9fbf8cc842b2", func := "loop.example/homeconsole/laws.FnColorValid", spec := "fnColorValid", apart := false, narrowed := true }
def FnColorValidUptoSaid : Prop := fnColorValidUptoRow.holds Try.pinned (OpenSpec.upto fnColorValidSpec)

/-- 'laws.FnPackColor', WHERE WHAT IT READS IS OF BULK AT MOST 1048576: true; the input reads as it did. -/
def fnPackColorUptoRow : OpenClaim := { program := "ytbboebmfdahgpaa", sum := "fa496e1189e7c2085ca0f1ea4ab4fdf385b3945beac7360b76db9fbf8cc842b2", func := "loop.example/homeconsole/laws.FnPackColor", spec := "fnPackColor", apart := false, narrowed := true }
def FnPackColorUptoSaid : Prop := fnPackColorUptoRow.holds Try.pinned (OpenSpec.upto fnPackColorSpec)

/-- 'laws.FnUnpackColor', WHERE WHAT IT READS IS OF BULK AT MOST 1048576: true; the input reads as it did. -/
def fnUnpackColorUptoRow : OpenClaim := { program := "ytbboebmfdahgpaa", sum := "fa496e1189e7c2085ca0f1ea4ab4fdf385b3945beac7360b76db9fbf8cc842b2", func := "loop.example/homeconsole/laws.FnUnpackColor", spec := "fnUnpackColor", apart := false, narrowed := true }
def FnUnpackColorUptoSaid : Prop := fnUnpackColorUptoRow.holds Try.pinned (OpenSpec.upto fnUnpackColorSpec)

/-- 'laws.FnMixColors', WHERE WHAT IT READS IS OF BULK AT MOST 1048576: true; the input reads as it did. -/
def fnMixColorsUptoRow : OpenClaim := { program := "ytbboebmfdahgpaa", sum := "fa496e1189e7c2085ca0f1ea4ab4fdf385b3945beac7360b76db9fbf8cc842b2", func := "loop.example/homeconsole/laws.FnMixColors", spec := "fnMixColors", apart := false, narrowed := true }
def FnMixColorsUptoSaid : Prop := fnMixColorsUptoRow.holds Try.pinned (OpenSpec.upto fnMixColorsSpec)

/-- 'laws.FnFadeColor', WHERE WHAT IT READS IS OF BULK AT MOST 1048576: true; the input reads as it did. -/
def fnFadeColorUptoRow : OpenClaim := { program := "ytbboebmfdahgpaa", sum := "fa496e1189e7c2085ca0f1ea4ab4fdf385b3945beac7360b76db9fbf8cc842b2", func := "loop.example/homeconsole/laws.FnFadeColor", spec := "fnFadeColor", apart := false, narrowed := true }
def FnFadeColorUptoSaid : Prop := fnFadeColorUptoRow.holds Try.pinned (OpenSpec.upto fnFadeColorSpec)

/-- 'laws.FnFadeHalf', WHERE WHAT IT READS IS OF BULK AT MOST 1048576: true; the input reads as it did. -/
def fnFadeHalfUptoRow : OpenClaim := { program := "ytbboebmfdahgpaa", sum := "fa496e1189e7c2085ca0f1ea4ab4fdf385b3945beac7360b76db9fbf8cc842b2", func := "loop.example/homeconsole/laws.FnFadeHalf", spec := "fnFadeHalf", apart := false, narrowed := true }
def FnFadeHalfUptoSaid : Prop := fnFadeHalfUptoRow.holds Try.pinned (OpenSpec.upto fnFadeHalfSpec)

/-- 'laws.FnExactColorValid', WHERE WHAT IT READS IS OF BULK AT MOST 1048576: true; the input reads as it did. -/
def fnExactColorValidUptoRow : OpenClaim := { program := "ytbboebmfdahgpaa", sum := "fa496e1189e7c2085ca0f1ea4ab4fdf385b3945beac7360b76db9fbf8cc842b2", func := "loop.example/homeconsole/laws.FnExactColorValid", spec := "fnExactColorValid", apart := false, narrowed := true }
def FnExactColorValidUptoSaid : Prop := fnExactColorValidUptoRow.holds Try.pinned (OpenSpec.upto fnExactColorValidSpec)

/-- 'laws.FnExactPackColor', WHERE WHAT IT READS IS OF BULK AT MOST 1048576: true; the input reads as it did. -/
def fnExactPackColorUptoRow : OpenClaim := { program := "ytbboebmfdahgpaa", sum := "fa496e1189e7c2085ca0f1ea4ab4fdf385b3945beac7360b76db9fbf8cc842b2", func := "loop.example/homeconsole/laws.FnExactPackColor", spec := "fnExactPackColor", apart := false, narrowed := true }
def FnExactPackColorUptoSaid : Prop := fnExactPackColorUptoRow.holds Try.pinned (OpenSpec.upto fnExactPackColorSpec)

/-- 'laws.FnExactUnpackColor', WHERE WHAT IT READS IS OF BULK AT MOST 1048576: true; the input reads as it did. -/
def fnExactUnpackColorUptoRow : OpenClaim := { program := "ytbboebmfdahgpaa", sum := "fa496e1189e7c2085ca0f1ea4ab4fdf385b3945beac7360b76db9fbf8cc842b2", func := "loop.example/homeconsole/laws.FnExactUnpackColor", spec := "fnExactUnpackColor", apart := false, narrowed := true }
def FnExactUnpackColorUptoSaid : Prop := fnExactUnpackColorUptoRow.holds Try.pinned (OpenSpec.upto fnExactUnpackColorSpec)

/-- 'laws.FnExactMixColors', WHERE WHAT IT READS IS OF BULK AT MOST 1048576: true; the input reads as it did. -/
def fnExactMixColorsUptoRow : OpenClaim := { program := "ytbboebmfdahgpaa", sum := "fa496e1189e7c2085ca0f1ea4ab4fdf385b3945beac7360b76db9fbf8cc842b2", func := "loop.example/homeconsole/laws.FnExactMixColors", spec := "fnExactMixColors", apart := false, narrowed := true }
def FnExactMixColorsUptoSaid : Prop := fnExactMixColorsUptoRow.holds Try.pinned (OpenSpec.upto fnExactMixColorsSpec)

/-- 'laws.FnExactFadeColor', WHERE WHAT IT READS IS OF BULK AT MOST 1048576: true; the input reads as it did. -/
def fnExactFadeColorUptoRow : OpenClaim := { program := "ytbboebmfdahgpaa", sum := "fa496e1189e7c2085ca0f1ea4ab4fdf385b3945beac7360b76db9fbf8cc842b2", func := "loop.example/homeconsole/laws.FnExactFadeColor", spec := "fnExactFadeColor", apart := false, narrowed := true }
def FnExactFadeColorUptoSaid : Prop := fnExactFadeColorUptoRow.holds Try.pinned (OpenSpec.upto fnExactFadeColorSpec)

end Rows
end Go.Proofs.Ytbboebmfdahgpaa
