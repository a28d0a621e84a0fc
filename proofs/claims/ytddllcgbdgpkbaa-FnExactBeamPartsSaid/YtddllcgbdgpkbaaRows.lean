/-
  No cell of these rows narrows 'for every input' (looked for: loops, veiled, ifaces, maps, wideKeys, modest, calm, conditions, laid).
  DERIVED. THE GIVEN ROWS OF THIS SEAT. 7 by the template 'for every input the law returns true; each argument reads behind the call as it read before'; 0 by the template 'total and deterministic' (their statements: YtddllcgbdgpkbaaTotals.lean).
  GIVEN WITH THE SEED: the statements are not yours to turn. If you find one false, say at which input.
  Laid BY PROGRAM, IN A SANDBOX (cutbox-rows.mjs): the forced cells as the released guide's own fill.sh prints them over the translation 0998572ade2d27e5… (all of the seat's roots in one cut). By AI agents, Wed Nov 11 2026. No macro, syntax, notation, axiom, sorry.
-/
import Derived.Test.YtddllcgbdgpkbaaChecked
import GoSem.Claim
import GoSem.ClaimJoined
import GoSem.ClaimMapViews
import Derived.JoinedTies
import Derived.KernelRfl
namespace Go.Proofs.Ytddllcgbdgpkbaa
/- THE CELL 'sum', in the pinned program and in every row, IS THE sha256 OF THE DUMP (.gsa) THAT YtddllcgbdgpkbaaProg.lean LOADS. Nothing in Lean hashes anything: it is a label: what it is worth is what the hold of that sum in a sandbox is worth. -/
noncomputable def Try.pinned : Pinned := { name := "ytddllcgbdgpkbaa", sum := "0998572ade2d27e5e0d37a0b7f6df10f28a8d131d7739ad724f07c8f26c15038", checked := Try.checked }
namespace Rows
def none {H : Type} : Left H := { results := [], args := [] }

/-- 'laws.FnChangesValid': WHATEVER THE INPUT: true; the input reads as it did. -/
def fnChangesValidSpec : ChangeSpec := { name := "fnChangesValid", fn := fun _ => fun
  | [d] => { results := [.lit (.bool true)], args := [d] }
  | _ => none }
def fnChangesValidRow : OpenClaim := { program := "ytddllcgbdgpkbaa", sum := "0998572ade2d27e5e0d37a0b7f6df10f28a8d131d7739ad724f07c8f26c15038", func := "loop.example/homeconsole/laws.FnChangesValid", spec := "fnChangesValid", apart := false }
def FnChangesValidSaid : Prop := fnChangesValidRow.holds Try.pinned (OpenSpec.ofChange fnChangesValidSpec)

/-- ITS FALSE NEIGHBOUR: 'it returns false'. Refute it at one input. -/
def fnChangesValidWrong : ChangeSpec := { name := "fnChangesValid", fn := fun _ => fun
  | [d] => { results := [.lit (.bool false)], args := [d] }
  | _ => none }
def FnChangesValidWrongFalsely : Prop := fnChangesValidRow.holds Try.pinned (OpenSpec.ofChange fnChangesValidWrong)

/-- 'laws.FnBeamLine': WHATEVER THE INPUT: true; the input reads as it did. -/
def fnBeamLineSpec : ChangeSpec := { name := "fnBeamLine", fn := fun _ => fun
  | [d] => { results := [.lit (.bool true)], args := [d] }
  | _ => none }
def fnBeamLineRow : OpenClaim := { program := "ytddllcgbdgpkbaa", sum := "0998572ade2d27e5e0d37a0b7f6df10f28a8d131d7739ad724f07c8f26c15038", func := "loop.example/homeconsole/laws.FnBeamLine", spec := "fnBeamLine", apart := false }
def FnBeamLineSaid : Prop := fnBeamLineRow.holds Try.pinned (OpenSpec.ofChange fnBeamLineSpec)

/-- ITS FALSE NEIGHBOUR: 'it returns false'. Refute it at one input. -/
def fnBeamLineWrong : ChangeSpec := { name := "fnBeamLine", fn := fun _ => fun
  | [d] => { results := [.lit (.bool false)], args := [d] }
  | _ => none }
def FnBeamLineWrongFalsely : Prop := fnBeamLineRow.holds Try.pinned (OpenSpec.ofChange fnBeamLineWrong)

/-- 'laws.FnBeamParts': WHATEVER THE INPUT: true; the input reads as it did. -/
def fnBeamPartsSpec : ChangeSpec := { name := "fnBeamParts", fn := fun _ => fun
  | [d] => { results := [.lit (.bool true)], args := [d] }
  | _ => none }
def fnBeamPartsRow : OpenClaim := { program := "ytddllcgbdgpkbaa", sum := "0998572ade2d27e5e0d37a0b7f6df10f28a8d131d7739ad724f07c8f26c15038", func := "loop.example/homeconsole/laws.FnBeamParts", spec := "fnBeamParts", apart := false }
def FnBeamPartsSaid : Prop := fnBeamPartsRow.holds Try.pinned (OpenSpec.ofChange fnBeamPartsSpec)

/-- ITS FALSE NEIGHBOUR: 'it returns false'. Refute it at one input. -/
def fnBeamPartsWrong : ChangeSpec := { name := "fnBeamParts", fn := fun _ => fun
  | [d] => { results := [.lit (.bool false)], args := [d] }
  | _ => none }
def FnBeamPartsWrongFalsely : Prop := fnBeamPartsRow.holds Try.pinned (OpenSpec.ofChange fnBeamPartsWrong)

/-- 'laws.FnBeamFirst': WHATEVER THE INPUT: true; the input reads as it did. -/
def fnBeamFirstSpec : ChangeSpec := { name := "fnBeamFirst", fn := fun _ => fun
  | [d] => { results := [.lit (.bool true)], args := [d] }
  | _ => none }
def fnBeamFirstRow : OpenClaim := { program := "ytddllcgbdgpkbaa", sum := "0998572ade2d27e5e0d37a0b7f6df10f28a8d131d7739ad724f07c8f26c15038", func := "loop.example/homeconsole/laws.FnBeamFirst", spec := "fnBeamFirst", apart := false }
def FnBeamFirstSaid : Prop := fnBeamFirstRow.holds Try.pinned (OpenSpec.ofChange fnBeamFirstSpec)

/-- ITS FALSE NEIGHBOUR: 'it returns false'. Refute it at one input. -/
def fnBeamFirstWrong : ChangeSpec := { name := "fnBeamFirst", fn := fun _ => fun
  | [d] => { results := [.lit (.bool false)], args := [d] }
  | _ => none }
def FnBeamFirstWrongFalsely : Prop := fnBeamFirstRow.holds Try.pinned (OpenSpec.ofChange fnBeamFirstWrong)

/-- 'laws.FnExactChangesValid': WHATEVER THE INPUT: true; the input reads as it did. -/
def fnExactChangesValidSpec : ChangeSpec := { name := "fnExactChangesValid", fn := fun _ => fun
  | [d] => { results := [.lit (.bool true)], args := [d] }
  | _ => none }
def fnExactChangesValidRow : OpenClaim := { program := "ytddllcgbdgpkbaa", sum := "0998572ade2d27e5e0d37a0b7f6df10f28a8d131d7739ad724f07c8f26c15038", func := "loop.example/homeconsole/laws.FnExactChangesValid", spec := "fnExactChangesValid", apart := false }
def FnExactChangesValidSaid : Prop := fnExactChangesValidRow.holds Try.pinned (OpenSpec.ofChange fnExactChangesValidSpec)

/-- ITS FALSE NEIGHBOUR: 'it returns false'. Refute it at one input. -/
def fnExactChangesValidWrong : ChangeSpec := { name := "fnExactChangesValid", fn := fun _ => fun
  | [d] => { results := [.lit (.bool false)], args := [d] }
  | _ => none }
def FnExactChangesValidWrongFalsely : Prop := fnExactChangesValidRow.holds Try.pinned (OpenSpec.ofChange fnExactChangesValidWrong)

/-- 'laws.FnExactBeamLine': WHATEVER THE INPUT: true; the input reads as it did. -/
def fnExactBeamLineSpec : ChangeSpec := { name := "fnExactBeamLine", fn := fun _ => fun
  | [d1, d2, d3] => { results := [.lit (.bool true)], args := [d1, d2, d3] }
  | _ => none }
def fnExactBeamLineRow : OpenClaim := { program := "ytddllcgbdgpkbaa", sum := "0998572ade2d27e5e0d37a0b7f6df10f28a8d131d7739ad724f07c8f26c15038", func := "loop.example/homeconsole/laws.FnExactBeamLine", spec := "fnExactBeamLine", apart := false }
def FnExactBeamLineSaid : Prop := fnExactBeamLineRow.holds Try.pinned (OpenSpec.ofChange fnExactBeamLineSpec)

/-- ITS FALSE NEIGHBOUR: 'it returns false'. Refute it at one input. -/
def fnExactBeamLineWrong : ChangeSpec := { name := "fnExactBeamLine", fn := fun _ => fun
  | [d1, d2, d3] => { results := [.lit (.bool false)], args := [d1, d2, d3] }
  | _ => none }
def FnExactBeamLineWrongFalsely : Prop := fnExactBeamLineRow.holds Try.pinned (OpenSpec.ofChange fnExactBeamLineWrong)

/-- 'laws.FnExactBeamParts': WHATEVER THE INPUT: true; the input reads as it did. -/
def fnExactBeamPartsSpec : ChangeSpec := { name := "fnExactBeamParts", fn := fun _ => fun
  | [d1, d2, d3] => { results := [.lit (.bool true)], args := [d1, d2, d3] }
  | _ => none }
def fnExactBeamPartsRow : OpenClaim := { program := "ytddllcgbdgpkbaa", sum := "0998572ade2d27e5e0d37a0b7f6df10f28a8d131d7739ad724f07c8f26c15038", func := "loop.example/homeconsole/laws.FnExactBeamParts", spec := "fnExactBeamParts", apart := false }
def FnExactBeamPartsSaid : Prop := fnExactBeamPartsRow.holds Try.pinned (OpenSpec.ofChange fnExactBeamPartsSpec)

/-- ITS FALSE NEIGHBOUR: 'it returns false'. Refute it at one input. -/
def fnExactBeamPartsWrong : ChangeSpec := { name := "fnExactBeamParts", fn := fun _ => fun
  | [d1, d2, d3] => { results := [.lit (.bool false)], args := [d1, d2, d3] }
  | _ => none }
def FnExactBeamPartsWrongFalsely : Prop := fnExactBeamPartsRow.holds Try.pinned (OpenSpec.ofChange fnExactBeamPartsWrong)

/- THE SECOND FORM. 'bulk': how many values and letters a reading holds, each counted each time it is reached (what is shared counts as often as it is met; a slice's spare places count too). A statement '..UptoSaid' is the law's where the arguments, and the package variables that the reading takes, are together of bulk at most 1048576: NARROWER than '..Said'. Prove '..Said' where nothing that the law and all that it calls make is longer than what came in: it says more and counts as full. Else prove '..UptoSaid'. A law counts once. -/
mutual
def uptoBulk {H : Type} : DataW H → Nat
  | .lit (.string bytes) => bytes.length + 1
  | .lit _ => 1
  | .nil => 1
  | .ptr d => uptoBulk d + 1
  | .slice elems spare => uptoBulkAll elems + uptoBulkAll spare + 1
  | .agg parts => uptoBulkAll parts + 1
  | .iface _ d => uptoBulk d + 1
  | .map entries => uptoBulkEntries entries + 1
  | .held _ => 1
def uptoBulkAll {H : Type} : List (DataW H) → Nat
  | [] => 0
  | d :: r => uptoBulk d + uptoBulkAll r
def uptoBulkEntries {H : Type} : List (Lit × DataW H) → Nat
  | [] => 0
  | x :: r => uptoBulkEntry x + uptoBulkEntries r
def uptoBulkEntry {H : Type} : Lit × DataW H → Nat
  | (.string bytes, d) => bytes.length + uptoBulk d + 1
  | (_, d) => uptoBulk d + 1
 end
def uptoSmall : (H : Type) → List (DataW H) → Bool := fun _ ds => decide (uptoBulkAll ds ≤ 1048576)
def OpenSpec.upto (s : _root_.Go.ChangeSpec) : _root_.Go.OpenSpec := { _root_.Go.OpenSpec.ofChange s with cond := some uptoSmall }

/-- 'laws.FnChangesValid', WHERE WHAT IT READS IS OF BULK AT MOST 1048576: true; the input reads as it did. -/
def fnChangesValidUptoRow : OpenClaim := { program := "ytddllcgbdgpkbaa", sum := "0998572ade2d27e5e0d37a0b7f6df10f28a8d131d7739ad724f07c8f26c15038", func := "loop.example/homeconsole/laws.FnChangesValid", spec := "fnChangesValid", apart := false, narrowed := true }
def FnChangesValidUptoSaid : Prop := fnChangesValidUptoRow.holds Try.pinned (OpenSpec.upto fnChangesValidSpec)

/-- 'laws.FnBeamLine', WHERE WHAT IT READS IS OF BULK AT MOST 1048576: true; the input reads as it did. -/
def fnBeamLineUptoRow : OpenClaim := { program := "ytddllcgbdgpkbaa", sum := "0998572ade2d27e5e0d37a0b7f6df10f28a8d131d7739ad724f07c8f26c15038", func := "loop.example/homeconsole/laws.FnBeamLine", spec := "fnBeamLine", apart := false, narrowed := true }
def FnBeamLineUptoSaid : Prop := fnBeamLineUptoRow.holds Try.pinned (OpenSpec.upto fnBeamLineSpec)

/-- 'laws.FnBeamParts', WHERE WHAT IT READS IS OF BULK AT MOST 1048576: true; the input reads as it did. -/
def fnBeamPartsUptoRow : OpenClaim := { program := "ytddllcgbdgpkbaa", sum := "0998572ade2d27e5e0d37a0b7f6df10f28a8d131d7739ad724f07c8f26c15038", func := "loop.example/homeconsole/laws.FnBeamParts", spec := "fnBeamParts", apart := false, narrowed := true }
def FnBeamPartsUptoSaid : Prop := fnBeamPartsUptoRow.holds Try.pinned (OpenSpec.upto fnBeamPartsSpec)

/-- 'laws.FnBeamFirst', WHERE WHAT IT READS IS OF BULK AT MOST 1048576: true; the input reads as it did. -/
def fnBeamFirstUptoRow : OpenClaim := { program := "ytddllcgbdgpkbaa", sum := "0998572ade2d27e5e0d37a0b7f6df10f28a8d131d7739ad724f07c8f26c15038", func := "loop.example/homeconsole/laws.FnBeamFirst", spec := "fnBeamFirst", apart := false, narrowed := true }
def FnBeamFirstUptoSaid : Prop := fnBeamFirstUptoRow.holds Try.pinned (OpenSpec.upto fnBeamFirstSpec)

/-- 'laws.FnExactChangesValid', WHERE WHAT IT READS IS OF BULK AT MOST 1048576: true; the input reads as it did. -/
def fnExactChangesValidUptoRow : OpenClaim := { program := "ytddllcgbdgpkbaa", sum := "0998572ade2d27e5e0d37a0b7f6df10f28a8d131d7739ad724f07c8f26c15038", func := "loop.example/homeconsole/laws.FnExactChangesValid", spec := "fnExactChangesValid", apart := false, narrowed := true }
def FnExactChangesValidUptoSaid : Prop := fnExactChangesValidUptoRow.holds Try.pinned (OpenSpec.upto fnExactChangesValidSpec)

/-- 'laws.FnExactBeamLine', WHERE WHAT IT READS IS OF BULK AT MOST 1048576: true; the input reads as it did. -/
def fnExactBeamLineUptoRow : OpenClaim := { program := "ytddllcgbdgpkbaa", sum := "0998572ade2d27e5e0d37a0b7f6df10f28a8d131d7739ad724f07c8f26c15038", func := "loop.example/homeconsole/laws.FnExactBeamLine", spec := "fnExactBeamLine", apart := false, narrowed := true }
def FnExactBeamLineUptoSaid : Prop := fnExactBeamLineUptoRow.holds Try.pinned (OpenSpec.upto fnExactBeamLineSpec)

/-- 'laws.FnExactBeamParts', WHERE WHAT IT READS IS OF BULK AT MOST 1048576: true; the input reads as it did. -/
def fnExactBeamPartsUptoRow : OpenClaim := { program := "ytddllcgbdgpkbaa", sum := "0998572ade2d27e5e0d37a0b7f6df10f28a8d131d7739ad724f07c8f26c15038", func := "loop.example/homeconsole/laws.FnExactBeamParts", spec := "fnExactBeamParts", apart := false, narrowed := true }
def FnExactBeamPartsUptoSaid : Prop := fnExactBeamPartsUptoRow.holds Try.pinned (OpenSpec.upto fnExactBeamPartsSpec)

end Rows
end Go.Proofs.Ytddllcgbdgpkbaa
