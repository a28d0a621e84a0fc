/-
  No cell of these rows narrows 'for every input' (looked for: loops, veiled, ifaces, maps, wideKeys, modest, calm, conditions, laid).
  DERIVED. THE GIVEN ROWS OF THIS SEAT. 11 by the template 'for every input the law returns true; each argument reads behind the call as it read before'; 0 by the template 'total and deterministic' (their statements: YtjfhdkidefkogaaTotals.lean).
  GIVEN WITH THE SEED: the statements are not yours to turn. If you find one false, say at which input.
  Laid BY PROGRAM, IN A SANDBOX (cutbox-rows.mjs): the forced cells as the released guide's own fill.sh prints them over the translation 0172ff835124ece6… (all of the seat's roots in one cut). By AI agents, Wed Nov 11 2026. No macro, syntax, notation, axiom, sorry.
-/
import Derived.Test.YtjfhdkidefkogaaChecked
import GoSem.Claim
import GoSem.ClaimJoined
import GoSem.ClaimMapViews
import Derived.JoinedTies
import Derived.KernelRfl
namespace Go.Proofs.Ytjfhdkidefkogaa
/- THE CELL 'sum', in the pinned program and in every row, IS THE sha256 OF THE DUMP (.gsa) THAT YtjfhdkidefkogaaProg.lean LOADS. Nothing in Lean hashes anything: it is a label: what it is worth is what the hold of that sum in a sandbox is worth. -/
noncomputable def Try.pinned : Pinned := { name := "ytjfhdkidefkogaa", sum := "0172ff835124ece6afad4975e141c7920f775d711adabd195501c3c184a23fc3", checked := Try.checked }
namespace Rows
def none {H : Type} : Left H := { results := [], args := [] }

/-- 'laws.FnPadValid': WHATEVER THE INPUT: true; the input reads as it did. -/
def fnPadValidSpec : ChangeSpec := { name := "fnPadValid", fn := fun _ => fun
  | [d] => { results := [.lit (.bool true)], args := [d] }
  | _ => none }
def fnPadValidRow : OpenClaim := { program := "ytjfhdkidefkogaa", sum := "0172ff835124ece6afad4975e141c7920f775d711adabd195501c3c184a23fc3", func := "loop.example/homeconsole/laws.FnPadValid", spec := "fnPadValid", apart := false }
def FnPadValidSaid : Prop := fnPadValidRow.holds Try.pinned (OpenSpec.ofChange fnPadValidSpec)

/-- ITS FALSE NEIGHBOUR: 'it returns false'. Refute it at one input. -/
def fnPadValidWrong : ChangeSpec := { name := "fnPadValid", fn := fun _ => fun
  | [d] => { results := [.lit (.bool false)], args := [d] }
  | _ => none }
def FnPadValidWrongFalsely : Prop := fnPadValidRow.holds Try.pinned (OpenSpec.ofChange fnPadValidWrong)

/-- 'laws.FnPressPad': WHATEVER THE INPUT: true; the input reads as it did. -/
def fnPressPadSpec : ChangeSpec := { name := "fnPressPad", fn := fun _ => fun
  | [d] => { results := [.lit (.bool true)], args := [d] }
  | _ => none }
def fnPressPadRow : OpenClaim := { program := "ytjfhdkidefkogaa", sum := "0172ff835124ece6afad4975e141c7920f775d711adabd195501c3c184a23fc3", func := "loop.example/homeconsole/laws.FnPressPad", spec := "fnPressPad", apart := false }
def FnPressPadSaid : Prop := fnPressPadRow.holds Try.pinned (OpenSpec.ofChange fnPressPadSpec)

/-- ITS FALSE NEIGHBOUR: 'it returns false'. Refute it at one input. -/
def fnPressPadWrong : ChangeSpec := { name := "fnPressPad", fn := fun _ => fun
  | [d] => { results := [.lit (.bool false)], args := [d] }
  | _ => none }
def FnPressPadWrongFalsely : Prop := fnPressPadRow.holds Try.pinned (OpenSpec.ofChange fnPressPadWrong)

/-- 'laws.FnLatchPad': WHATEVER THE INPUT: true; the input reads as it did. -/
def fnLatchPadSpec : ChangeSpec := { name := "fnLatchPad", fn := fun _ => fun
  | [d] => { results := [.lit (.bool true)], args := [d] }
  | _ => none }
def fnLatchPadRow : OpenClaim := { program := "ytjfhdkidefkogaa", sum := "0172ff835124ece6afad4975e141c7920f775d711adabd195501c3c184a23fc3", func := "loop.example/homeconsole/laws.FnLatchPad", spec := "fnLatchPad", apart := false }
def FnLatchPadSaid : Prop := fnLatchPadRow.holds Try.pinned (OpenSpec.ofChange fnLatchPadSpec)

/-- ITS FALSE NEIGHBOUR: 'it returns false'. Refute it at one input. -/
def fnLatchPadWrong : ChangeSpec := { name := "fnLatchPad", fn := fun _ => fun
  | [d] => { results := [.lit (.bool false)], args := [d] }
  | _ => none }
def FnLatchPadWrongFalsely : Prop := fnLatchPadRow.holds Try.pinned (OpenSpec.ofChange fnLatchPadWrong)

/-- 'laws.FnReadPad': WHATEVER THE INPUT: true; the input reads as it did. -/
def fnReadPadSpec : ChangeSpec := { name := "fnReadPad", fn := fun _ => fun
  | [d] => { results := [.lit (.bool true)], args := [d] }
  | _ => none }
def fnReadPadRow : OpenClaim := { program := "ytjfhdkidefkogaa", sum := "0172ff835124ece6afad4975e141c7920f775d711adabd195501c3c184a23fc3", func := "loop.example/homeconsole/laws.FnReadPad", spec := "fnReadPad", apart := false }
def FnReadPadSaid : Prop := fnReadPadRow.holds Try.pinned (OpenSpec.ofChange fnReadPadSpec)

/-- ITS FALSE NEIGHBOUR: 'it returns false'. Refute it at one input. -/
def fnReadPadWrong : ChangeSpec := { name := "fnReadPad", fn := fun _ => fun
  | [d] => { results := [.lit (.bool false)], args := [d] }
  | _ => none }
def FnReadPadWrongFalsely : Prop := fnReadPadRow.holds Try.pinned (OpenSpec.ofChange fnReadPadWrong)

/-- 'laws.FnNewlyPressed': WHATEVER THE INPUT: true; the input reads as it did. -/
def fnNewlyPressedSpec : ChangeSpec := { name := "fnNewlyPressed", fn := fun _ => fun
  | [d] => { results := [.lit (.bool true)], args := [d] }
  | _ => none }
def fnNewlyPressedRow : OpenClaim := { program := "ytjfhdkidefkogaa", sum := "0172ff835124ece6afad4975e141c7920f775d711adabd195501c3c184a23fc3", func := "loop.example/homeconsole/laws.FnNewlyPressed", spec := "fnNewlyPressed", apart := false }
def FnNewlyPressedSaid : Prop := fnNewlyPressedRow.holds Try.pinned (OpenSpec.ofChange fnNewlyPressedSpec)

/-- ITS FALSE NEIGHBOUR: 'it returns false'. Refute it at one input. -/
def fnNewlyPressedWrong : ChangeSpec := { name := "fnNewlyPressed", fn := fun _ => fun
  | [d] => { results := [.lit (.bool false)], args := [d] }
  | _ => none }
def FnNewlyPressedWrongFalsely : Prop := fnNewlyPressedRow.holds Try.pinned (OpenSpec.ofChange fnNewlyPressedWrong)

/-- 'laws.FnPadChange': WHATEVER THE INPUT: true; the input reads as it did. -/
def fnPadChangeSpec : ChangeSpec := { name := "fnPadChange", fn := fun _ => fun
  | [d] => { results := [.lit (.bool true)], args := [d] }
  | _ => none }
def fnPadChangeRow : OpenClaim := { program := "ytjfhdkidefkogaa", sum := "0172ff835124ece6afad4975e141c7920f775d711adabd195501c3c184a23fc3", func := "loop.example/homeconsole/laws.FnPadChange", spec := "fnPadChange", apart := false }
def FnPadChangeSaid : Prop := fnPadChangeRow.holds Try.pinned (OpenSpec.ofChange fnPadChangeSpec)

/-- ITS FALSE NEIGHBOUR: 'it returns false'. Refute it at one input. -/
def fnPadChangeWrong : ChangeSpec := { name := "fnPadChange", fn := fun _ => fun
  | [d] => { results := [.lit (.bool false)], args := [d] }
  | _ => none }
def FnPadChangeWrongFalsely : Prop := fnPadChangeRow.holds Try.pinned (OpenSpec.ofChange fnPadChangeWrong)

/-- 'laws.FnExactPadValid': WHATEVER THE INPUT: true; the input reads as it did. -/
def fnExactPadValidSpec : ChangeSpec := { name := "fnExactPadValid", fn := fun _ => fun
  | [d] => { results := [.lit (.bool true)], args := [d] }
  | _ => none }
def fnExactPadValidRow : OpenClaim := { program := "ytjfhdkidefkogaa", sum := "0172ff835124ece6afad4975e141c7920f775d711adabd195501c3c184a23fc3", func := "loop.example/homeconsole/laws.FnExactPadValid", spec := "fnExactPadValid", apart := false }
def FnExactPadValidSaid : Prop := fnExactPadValidRow.holds Try.pinned (OpenSpec.ofChange fnExactPadValidSpec)

/-- ITS FALSE NEIGHBOUR: 'it returns false'. Refute it at one input. -/
def fnExactPadValidWrong : ChangeSpec := { name := "fnExactPadValid", fn := fun _ => fun
  | [d] => { results := [.lit (.bool false)], args := [d] }
  | _ => none }
def FnExactPadValidWrongFalsely : Prop := fnExactPadValidRow.holds Try.pinned (OpenSpec.ofChange fnExactPadValidWrong)

/-- 'laws.FnExactPressPad': WHATEVER THE INPUT: true; the input reads as it did. -/
def fnExactPressPadSpec : ChangeSpec := { name := "fnExactPressPad", fn := fun _ => fun
  | [d1, d2] => { results := [.lit (.bool true)], args := [d1, d2] }
  | _ => none }
def fnExactPressPadRow : OpenClaim := { program := "ytjfhdkidefkogaa", sum := "0172ff835124ece6afad4975e141c7920f775d711adabd195501c3c184a23fc3", func := "loop.example/homeconsole/laws.FnExactPressPad", spec := "fnExactPressPad", apart := false }
def FnExactPressPadSaid : Prop := fnExactPressPadRow.holds Try.pinned (OpenSpec.ofChange fnExactPressPadSpec)

/-- ITS FALSE NEIGHBOUR: 'it returns false'. Refute it at one input. -/
def fnExactPressPadWrong : ChangeSpec := { name := "fnExactPressPad", fn := fun _ => fun
  | [d1, d2] => { results := [.lit (.bool false)], args := [d1, d2] }
  | _ => none }
def FnExactPressPadWrongFalsely : Prop := fnExactPressPadRow.holds Try.pinned (OpenSpec.ofChange fnExactPressPadWrong)

/-- 'laws.FnExactLatchPad': WHATEVER THE INPUT: true; the input reads as it did. -/
def fnExactLatchPadSpec : ChangeSpec := { name := "fnExactLatchPad", fn := fun _ => fun
  | [d] => { results := [.lit (.bool true)], args := [d] }
  | _ => none }
def fnExactLatchPadRow : OpenClaim := { program := "ytjfhdkidefkogaa", sum := "0172ff835124ece6afad4975e141c7920f775d711adabd195501c3c184a23fc3", func := "loop.example/homeconsole/laws.FnExactLatchPad", spec := "fnExactLatchPad", apart := false }
def FnExactLatchPadSaid : Prop := fnExactLatchPadRow.holds Try.pinned (OpenSpec.ofChange fnExactLatchPadSpec)

/-- ITS FALSE NEIGHBOUR: 'it returns false'. Refute it at one input. -/
def fnExactLatchPadWrong : ChangeSpec := { name := "fnExactLatchPad", fn := fun _ => fun
  | [d] => { results := [.lit (.bool false)], args := [d] }
  | _ => none }
def FnExactLatchPadWrongFalsely : Prop := fnExactLatchPadRow.holds Try.pinned (OpenSpec.ofChange fnExactLatchPadWrong)

/-- 'laws.FnExactReadPad': WHATEVER THE INPUT: true; the input reads as it did. -/
def fnExactReadPadSpec : ChangeSpec := { name := "fnExactReadPad", fn := fun _ => fun
  | [d] => { results := [.lit (.bool true)], args := [d] }
  | _ => none }
def fnExactReadPadRow : OpenClaim := { program := "ytjfhdkidefkogaa", sum := "0172ff835124ece6afad4975e141c7920f775d711adabd195501c3c184a23fc3", func := "loop.example/homeconsole/laws.FnExactReadPad", spec := "fnExactReadPad", apart := false }
def FnExactReadPadSaid : Prop := fnExactReadPadRow.holds Try.pinned (OpenSpec.ofChange fnExactReadPadSpec)

/-- ITS FALSE NEIGHBOUR: 'it returns false'. Refute it at one input. -/
def fnExactReadPadWrong : ChangeSpec := { name := "fnExactReadPad", fn := fun _ => fun
  | [d] => { results := [.lit (.bool false)], args := [d] }
  | _ => none }
def FnExactReadPadWrongFalsely : Prop := fnExactReadPadRow.holds Try.pinned (OpenSpec.ofChange fnExactReadPadWrong)

/-- 'laws.FnExactNewlyPressed': WHATEVER THE INPUT: true; the input reads as it did. -/
def fnExactNewlyPressedSpec : ChangeSpec := { name := "fnExactNewlyPressed", fn := fun _ => fun
  | [d1, d2] => { results := [.lit (.bool true)], args := [d1, d2] }
  | _ => none }
def fnExactNewlyPressedRow : OpenClaim := { program := "ytjfhdkidefkogaa", sum := "0172ff835124ece6afad4975e141c7920f775d711adabd195501c3c184a23fc3", func := "loop.example/homeconsole/laws.FnExactNewlyPressed", spec := "fnExactNewlyPressed", apart := false }
def FnExactNewlyPressedSaid : Prop := fnExactNewlyPressedRow.holds Try.pinned (OpenSpec.ofChange fnExactNewlyPressedSpec)

/-- ITS FALSE NEIGHBOUR: 'it returns false'. Refute it at one input. -/
def fnExactNewlyPressedWrong : ChangeSpec := { name := "fnExactNewlyPressed", fn := fun _ => fun
  | [d1, d2] => { results := [.lit (.bool false)], args := [d1, d2] }
  | _ => none }
def FnExactNewlyPressedWrongFalsely : Prop := fnExactNewlyPressedRow.holds Try.pinned (OpenSpec.ofChange fnExactNewlyPressedWrong)

/- THE SECOND FORM. 'bulk': how many values and letters a reading holds, each counted each time it is reached (what is shared counts as often as it is met; a slice's spare places count too). A statement '..UptoSaid' is the law's where the arguments, and the package variables that the reading takes, are together of bulk at most 1048576: NARROWER than '..Said'. Prove '..Said' where nothing that the law and all that it calls make is longer than what came in: it says more and counts as full. Else prove '..UptoSaid'. A law counts once. -/
mutual
def uptoBulk {H : Type} : DataW H → Nat
  | .lit (.string bytes) => bytes.length + 1
  | .lit _ => 1
  | .nil => 1
  | .ptr d => uptoBulk d + 1
  | .slice elems spare => uptoBulkAll elems + uptoBulkAll spare + 1
  | .agg parts => uptoBulkAll parts + 1
  | .iface _ d => uptoBulk d + 1
  | .map entries => uptoBulkEntries entries + 1
  | .held _ => 1
def uptoBulkAll {H : Type} : List (DataW H) → Nat
  | [] => 0
  | d :: r => uptoBulk d + uptoBulkAll r
def uptoBulkEntries {H : Type} : List (Lit × DataW H) → Nat
  | [] => 0
  | x :: r => uptoBulkEntry x + uptoBulkEntries r
def uptoBulkEntry {H : Type} : Lit × DataW H → Nat
  | (.string bytes, d) => bytes.length + uptoBulk d + 1
  | (_, d) => uptoBulk d + 1
 end
def uptoSmall : (H : Type) → List (DataW H) → Bool := fun _ ds => decide (uptoBulkAll ds ≤ 1048576)
def OpenSpec.upto (s : _root_.Go.ChangeSpec) : _root_.Go.OpenSpec := { _root_.Go.OpenSpec.ofChange s with cond := some uptoSmall }

/-- 'laws.FnPadValid', WHERE WHAT IT READS IS OF BULK AT MOST 1048576: true; the input reads as it did. -/
def fnPadValidUptoRow : OpenClaim := { program := "ytjfhdkidefkogaa", sum := "0172ff835124ece6afad4975e141c7920f775d711adabd195501c3c184a23fc3", func := "loop.example/homeconsole/laws.FnPadValid", spec := "fnPadValid", apart := false, narrowed := true }
def FnPadValidUptoSaid : Prop := fnPadValidUptoRow.holds Try.pinned (OpenSpec.upto fnPadValidSpec)

/-- 'laws.FnPressPad', WHERE WHAT IT READS IS OF BULK AT MOST 1048576: true; the input reads as it did. -/
def fnPressPadUptoRow : OpenClaim := { program := "ytjfhdkidefkogaa", sum := "0172ff835124ece6afad4975e141c7920f775d711adabd195501c3c184a23fc3", func := "loop.example/homeconsole/laws.FnPressPad", spec := "fnPressPad", apart := false, narrowed := true }
def FnPressPadUptoSaid : Prop := fnPressPadUptoRow.holds Try.pinned (OpenSpec.upto fnPressPadSpec)

/-- 'laws.FnLatchPad', WHERE WHAT IT READS IS OF BULK AT MOST 1048576: true; the input reads as it did. -/
def fnLatchPadUptoRow : OpenClaim := { program := "ytjfhdkidefkogaa", sum := "0172ff835124ece6afad4975e141c7920f775d711adabd195501c3c184a23fc3", func := "loop.example/homeconsole/laws.FnLatchPad", spec := "fnLatchPad", apart := false, narrowed := true }
def FnLatchPadUptoSaid : Prop := fnLatchPadUptoRow.holds Try.pinned (OpenSpec.upto fnLatchPadSpec)

/-- 'laws.FnReadPad', WHERE WHAT IT READS IS OF BULK AT MOST 1048576: true; the input reads as it did. -/
def fnReadPadUptoRow : OpenClaim := { program := "ytjfhdkidefkogaa", sum := "0172ff835124ece6afad4975e141c7920f775d711adabd195501c3c184a23fc3", func := "loop.example/homeconsole/laws.FnReadPad", spec := "fnReadPad", apart := false, narrowed := true }
def FnReadPadUptoSaid : Prop := fnReadPadUptoRow.holds Try.pinned (OpenSpec.upto fnReadPadSpec)

/-- 'laws.FnNewlyPressed', WHERE WHAT IT READS IS OF BULK AT MOST 1048576: true; the input reads as it did. -/
def fnNewlyPressedUptoRow : OpenClaim := { program := "ytjfhdkidefkogaa", sum := "0172ff835124ece6afad4975e141c7920f775d711adabd195501c3c184a23fc3", func := "loop.example/homeconsole/laws.FnNewlyPressed", spec := "fnNewlyPressed", apart := false, narrowed := true }
def FnNewlyPressedUptoSaid : Prop := fnNewlyPressedUptoRow.holds Try.pinned (OpenSpec.upto fnNewlyPressedSpec)

/-- 'laws.FnPadChange', WHERE WHAT IT READS IS OF BULK AT MOST 1048576: true; the input reads as it did. -/
def fnPadChangeUptoRow : OpenClaim := { program := "ytjfhdkidefkogaa", sum := "0172ff835124ece6afad4975e141c7920f775d711adabd195501c3c184a23fc3", func := "loop.example/homeconsole/laws.FnPadChange", spec := "fnPadChange", apart := false, narrowed := true }
def FnPadChangeUptoSaid : Prop := fnPadChangeUptoRow.holds Try.pinned (OpenSpec.upto fnPadChangeSpec)

/-- 'laws.FnExactPadValid', WHERE WHAT IT READS IS OF BULK AT MOST 1048576: true; the input reads as it did. -/
def fnExactPadValidUptoRow : OpenClaim := { program := "ytjfhdkidefkogaa", sum := "0172ff835124ece6afad4975e141c7920f775d711adabd195501c3c184a23fc3", func := "loop.example/homeconsole/laws.FnExactPadValid", spec := "fnExactPadValid", apart := false, narrowed := true }
def FnExactPadValidUptoSaid : Prop := fnExactPadValidUptoRow.holds Try.pinned (OpenSpec.upto fnExactPadValidSpec)

/-- 'laws.FnExactPressPad', WHERE WHAT IT READS IS OF BULK AT MOST 1048576: true; the input reads as it did. -/
def fnExactPressPadUptoRow : OpenClaim := { program := "ytjfhdkidefkogaa", sum := "0172ff835124ece6afad4975e141c7920f775d711adabd195501c3c184a23fc3", func := "loop.example/homeconsole/laws.FnExactPressPad", spec := "fnExactPressPad", apart := false, narrowed := true }
def FnExactPressPadUptoSaid : Prop := fnExactPressPadUptoRow.holds Try.pinned (OpenSpec.upto fnExactPressPadSpec)

/-- 'laws.FnExactLatchPad', WHERE WHAT IT READS IS OF BULK AT MOST 1048576: true; the input reads as it did. -/
def fnExactLatchPadUptoRow : OpenClaim := { program := "ytjfhdkidefkogaa", sum := "0172ff835124ece6afad4975e141c7920f775d711adabd195501c3c184a23fc3", func := "loop.example/homeconsole/laws.FnExactLatchPad", spec := "fnExactLatchPad", apart := false, narrowed := true }
def FnExactLatchPadUptoSaid : Prop := fnExactLatchPadUptoRow.holds Try.pinned (OpenSpec.upto fnExactLatchPadSpec)

/-- 'laws.FnExactReadPad', WHERE WHAT IT READS IS OF BULK AT MOST 1048576: true; the input reads as it did. -/
def fnExactReadPadUptoRow : OpenClaim := { program := "ytjfhdkidefkogaa", sum := "0172ff835124ece6afad4975e141c7920f775d711adabd195501c3c184a23fc3", func := "loop.example/homeconsole/laws.FnExactReadPad", spec := "fnExactReadPad", apart := false, narrowed := true }
def FnExactReadPadUptoSaid : Prop := fnExactReadPadUptoRow.holds Try.pinned (OpenSpec.upto fnExactReadPadSpec)

/-- 'laws.FnExactNewlyPressed', WHERE WHAT IT READS IS OF BULK AT MOST 1048576: true; the input reads as it did. -/
def fnExactNewlyPressedUptoRow : OpenClaim := { program := "ytjfhdkidefkogaa", sum := "0172ff835124ece6afad4975e141c7920f775d711adabd195501c3c184a23fc3", func := "loop.example/homeconsole/laws.FnExactNewlyPressed", spec := "fnExactNewlyPressed", apart := false, narrowed := true }
def FnExactNewlyPressedUptoSaid : Prop := fnExactNewlyPressedUptoRow.holds Try.pinned (OpenSpec.upto fnExactNewlyPressedSpec)

end Rows
end Go.Proofs.Ytjfhdkidefkogaa
