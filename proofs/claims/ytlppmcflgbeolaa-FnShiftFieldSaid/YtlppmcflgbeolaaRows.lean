/-
  No cell of these rows narrows 'for every input' (looked for: loops, veiled, ifaces, maps, wideKeys, modest, calm, conditions, laid).
  DERIVED. THE GIVEN ROWS OF THIS SEAT. 9 by the template 'for every input the law returns true; each argument reads behind the call as it read before'; 0 by the template 'total and deterministic' (their statements: YtlppmcflgbeolaaTotals.lean).
  GIVEN WITH THE SEED: the statements are not yours to turn. If you find one false, say at which input.
  Laid BY PROGRAM, IN A SANDBOX (cutbox-rows.mjs): the forced cells as the released guide's own fill.sh prints them over the translation fd61d22a2fb94e15… (all of the seat's roots in one cut). By AI agents, Wed Nov 11 2026. No macro, syntax, notation, axiom, sorry.
-/
import Derived.Test.YtlppmcflgbeolaaChecked
import GoSem.Claim
import GoSem.ClaimJoined
import GoSem.ClaimMapViews
import Derived.JoinedTies
import Derived.KernelRfl
namespace Go.Proofs.Ytlppmcflgbeolaa
/- THE CELL 'sum', in the pinned program and in every row, IS THE sha256 OF THE DUMP (.gsa) THAT YtlppmcflgbeolaaProg.lean LOADS. Nothing in Lean hashes anything: it is a label: what it is worth is what the hold of that sum in a sandbox is worth. -/
noncomputable def Try.pinned : Pinned := { name := "ytlppmcflgbeolaa", sum := "fd61d22a2fb94e15bc4e14351c49979b8e0a6d160e6d217b996d79d8dafc2818", checked := Try.checked }
namespace Rows
def none {H : Type} : Left H := { results := [], args := [] }

/-- 'laws.FnFieldValid': WHATEVER THE INPUT: true; the input reads as it did. -/
def fnFieldValidSpec : ChangeSpec := { name := "fnFieldValid", fn := fun _ => fun
  | [d] => { results := [.lit (.bool true)], args := [d] }
  | _ => none }
def fnFieldValidRow : OpenClaim := { program := "ytlppmcflgbeolaa", sum := "fd61d22a2fb94e15bc4e14351c49979b8e0a6d160e6d217b996d79d8dafc2818", func := "loop.example/homeconsole/laws.FnFieldValid", spec := "fnFieldValid", apart := false }
def FnFieldValidSaid : Prop := fnFieldValidRow.holds Try.pinned (OpenSpec.ofChange fnFieldValidSpec)

/-- ITS FALSE NEIGHBOUR: 'it returns false'. Refute it at one input. -/
def fnFieldValidWrong : ChangeSpec := { name := "fnFieldValid", fn := fun _ => fun
  | [d] => { results := [.lit (.bool false)], args := [d] }
  | _ => none }
def FnFieldValidWrongFalsely : Prop := fnFieldValidRow.holds Try.pinned (OpenSpec.ofChange fnFieldValidWrong)

/-- 'laws.FnFieldPixel': WHATEVER THE INPUT: true; the input reads as it did. -/
def fnFieldPixelSpec : ChangeSpec := { name := "fnFieldPixel", fn := fun _ => fun
  | [d] => { results := [.lit (.bool true)], args := [d] }
  | _ => none }
def fnFieldPixelRow : OpenClaim := { program := "ytlppmcflgbeolaa", sum := "fd61d22a2fb94e15bc4e14351c49979b8e0a6d160e6d217b996d79d8dafc2818", func := "loop.example/homeconsole/laws.FnFieldPixel", spec := "fnFieldPixel", apart := false }
def FnFieldPixelSaid : Prop := fnFieldPixelRow.holds Try.pinned (OpenSpec.ofChange fnFieldPixelSpec)

/-- ITS FALSE NEIGHBOUR: 'it returns false'. Refute it at one input. -/
def fnFieldPixelWrong : ChangeSpec := { name := "fnFieldPixel", fn := fun _ => fun
  | [d] => { results := [.lit (.bool false)], args := [d] }
  | _ => none }
def FnFieldPixelWrongFalsely : Prop := fnFieldPixelRow.holds Try.pinned (OpenSpec.ofChange fnFieldPixelWrong)

/-- 'laws.FnFieldLine': WHATEVER THE INPUT: true; the input reads as it did. -/
def fnFieldLineSpec : ChangeSpec := { name := "fnFieldLine", fn := fun _ => fun
  | [d] => { results := [.lit (.bool true)], args := [d] }
  | _ => none }
def fnFieldLineRow : OpenClaim := { program := "ytlppmcflgbeolaa", sum := "fd61d22a2fb94e15bc4e14351c49979b8e0a6d160e6d217b996d79d8dafc2818", func := "loop.example/homeconsole/laws.FnFieldLine", spec := "fnFieldLine", apart := false }
def FnFieldLineSaid : Prop := fnFieldLineRow.holds Try.pinned (OpenSpec.ofChange fnFieldLineSpec)

/-- ITS FALSE NEIGHBOUR: 'it returns false'. Refute it at one input. -/
def fnFieldLineWrong : ChangeSpec := { name := "fnFieldLine", fn := fun _ => fun
  | [d] => { results := [.lit (.bool false)], args := [d] }
  | _ => none }
def FnFieldLineWrongFalsely : Prop := fnFieldLineRow.holds Try.pinned (OpenSpec.ofChange fnFieldLineWrong)

/-- 'laws.FnShiftField': WHATEVER THE INPUT: true; the input reads as it did. -/
def fnShiftFieldSpec : ChangeSpec := { name := "fnShiftField", fn := fun _ => fun
  | [d] => { results := [.lit (.bool true)], args := [d] }
  | _ => none }
def fnShiftFieldRow : OpenClaim := { program := "ytlppmcflgbeolaa", sum := "fd61d22a2fb94e15bc4e14351c49979b8e0a6d160e6d217b996d79d8dafc2818", func := "loop.example/homeconsole/laws.FnShiftField", spec := "fnShiftField", apart := false }
def FnShiftFieldSaid : Prop := fnShiftFieldRow.holds Try.pinned (OpenSpec.ofChange fnShiftFieldSpec)

/-- ITS FALSE NEIGHBOUR: 'it returns false'. Refute it at one input. -/
def fnShiftFieldWrong : ChangeSpec := { name := "fnShiftField", fn := fun _ => fun
  | [d] => { results := [.lit (.bool false)], args := [d] }
  | _ => none }
def FnShiftFieldWrongFalsely : Prop := fnShiftFieldRow.holds Try.pinned (OpenSpec.ofChange fnShiftFieldWrong)

/-- 'laws.FnFieldTile': WHATEVER THE INPUT: true; the input reads as it did. -/
def fnFieldTileSpec : ChangeSpec := { name := "fnFieldTile", fn := fun _ => fun
  | [d] => { results := [.lit (.bool true)], args := [d] }
  | _ => none }
def fnFieldTileRow : OpenClaim := { program := "ytlppmcflgbeolaa", sum := "fd61d22a2fb94e15bc4e14351c49979b8e0a6d160e6d217b996d79d8dafc2818", func := "loop.example/homeconsole/laws.FnFieldTile", spec := "fnFieldTile", apart := false }
def FnFieldTileSaid : Prop := fnFieldTileRow.holds Try.pinned (OpenSpec.ofChange fnFieldTileSpec)

/-- ITS FALSE NEIGHBOUR: 'it returns false'. Refute it at one input. -/
def fnFieldTileWrong : ChangeSpec := { name := "fnFieldTile", fn := fun _ => fun
  | [d] => { results := [.lit (.bool false)], args := [d] }
  | _ => none }
def FnFieldTileWrongFalsely : Prop := fnFieldTileRow.holds Try.pinned (OpenSpec.ofChange fnFieldTileWrong)

/-- 'laws.FnExactFieldValid': WHATEVER THE INPUT: true; the input reads as it did. -/
def fnExactFieldValidSpec : ChangeSpec := { name := "fnExactFieldValid", fn := fun _ => fun
  | [d] => { results := [.lit (.bool true)], args := [d] }
  | _ => none }
def fnExactFieldValidRow : OpenClaim := { program := "ytlppmcflgbeolaa", sum := "fd61d22a2fb94e15bc4e14351c49979b8e0a6d160e6d217b996d79d8dafc2818", func := "loop.example/homeconsole/laws.FnExactFieldValid", spec := "fnExactFieldValid", apart := false }
def FnExactFieldValidSaid : Prop := fnExactFieldValidRow.holds Try.pinned (OpenSpec.ofChange fnExactFieldValidSpec)

/-- ITS FALSE NEIGHBOUR: 'it returns false'. Refute it at one input. -/
def fnExactFieldValidWrong : ChangeSpec := { name := "fnExactFieldValid", fn := fun _ => fun
  | [d] => { results := [.lit (.bool false)], args := [d] }
  | _ => none }
def FnExactFieldValidWrongFalsely : Prop := fnExactFieldValidRow.holds Try.pinned (OpenSpec.ofChange fnExactFieldValidWrong)

/-- 'laws.FnExactFieldPixel': WHATEVER THE INPUT: true; the input reads as it did. -/
def fnExactFieldPixelSpec : ChangeSpec := { name := "fnExactFieldPixel", fn := fun _ => fun
  | [d1, d2, d3] => { results := [.lit (.bool true)], args := [d1, d2, d3] }
  | _ => none }
def fnExactFieldPixelRow : OpenClaim := { program := "ytlppmcflgbeolaa", sum := "fd61d22a2fb94e15bc4e14351c49979b8e0a6d160e6d217b996d79d8dafc2818", func := "loop.example/homeconsole/laws.FnExactFieldPixel", spec := "fnExactFieldPixel", apart := false }
def FnExactFieldPixelSaid : Prop := fnExactFieldPixelRow.holds Try.pinned (OpenSpec.ofChange fnExactFieldPixelSpec)

/-- ITS FALSE NEIGHBOUR: 'it returns false'. Refute it at one input. -/
def fnExactFieldPixelWrong : ChangeSpec := { name := "fnExactFieldPixel", fn := fun _ => fun
  | [d1, d2, d3] => { results := [.lit (.bool false)], args := [d1, d2, d3] }
  | _ => none }
def FnExactFieldPixelWrongFalsely : Prop := fnExactFieldPixelRow.holds Try.pinned (OpenSpec.ofChange fnExactFieldPixelWrong)

/-- 'laws.FnExactFieldLine': WHATEVER THE INPUT: true; the input reads as it did. -/
def fnExactFieldLineSpec : ChangeSpec := { name := "fnExactFieldLine", fn := fun _ => fun
  | [d1, d2] => { results := [.lit (.bool true)], args := [d1, d2] }
  | _ => none }
def fnExactFieldLineRow : OpenClaim := { program := "ytlppmcflgbeolaa", sum := "fd61d22a2fb94e15bc4e14351c49979b8e0a6d160e6d217b996d79d8dafc2818", func := "loop.example/homeconsole/laws.FnExactFieldLine", spec := "fnExactFieldLine", apart := false }
def FnExactFieldLineSaid : Prop := fnExactFieldLineRow.holds Try.pinned (OpenSpec.ofChange fnExactFieldLineSpec)

/-- ITS FALSE NEIGHBOUR: 'it returns false'. Refute it at one input. -/
def fnExactFieldLineWrong : ChangeSpec := { name := "fnExactFieldLine", fn := fun _ => fun
  | [d1, d2] => { results := [.lit (.bool false)], args := [d1, d2] }
  | _ => none }
def FnExactFieldLineWrongFalsely : Prop := fnExactFieldLineRow.holds Try.pinned (OpenSpec.ofChange fnExactFieldLineWrong)

/-- 'laws.FnExactShiftField': WHATEVER THE INPUT: true; the input reads as it did. -/
def fnExactShiftFieldSpec : ChangeSpec := { name := "fnExactShiftField", fn := fun _ => fun
  | [d1, d2, d3] => { results := [.lit (.bool true)], args := [d1, d2, d3] }
  | _ => none }
def fnExactShiftFieldRow : OpenClaim := { program := "ytlppmcflgbeolaa", sum := "fd61d22a2fb94e15bc4e14351c49979b8e0a6d160e6d217b996d79d8dafc2818", func := "loop.example/homeconsole/laws.FnExactShiftField", spec := "fnExactShiftField", apart := false }
def FnExactShiftFieldSaid : Prop := fnExactShiftFieldRow.holds Try.pinned (OpenSpec.ofChange fnExactShiftFieldSpec)

/-- ITS FALSE NEIGHBOUR: 'it returns false'. Refute it at one input. -/
def fnExactShiftFieldWrong : ChangeSpec := { name := "fnExactShiftField", fn := fun _ => fun
  | [d1, d2, d3] => { results := [.lit (.bool false)], args := [d1, d2, d3] }
  | _ => none }
def FnExactShiftFieldWrongFalsely : Prop := fnExactShiftFieldRow.holds Try.pinned (OpenSpec.ofChange fnExactShiftFieldWrong)

/- THE SECOND FORM. 'bulk': how many values and letters a reading holds, each counted each time it is reached (what is shared counts as often as it is met; a slice's spare places count too). A statement '..UptoSaid' is the law's where the arguments, and the package variables that the reading takes, are together of bulk at most 1048576: NARROWER than '..Said'. Prove '..Said' where nothing that the law and all that it calls make is longer than what came in: it says more and counts as full. Else prove '..UptoSaid'. A law counts once. -/
mutual
def uptoBulk {H : Type} : DataW H → Nat
  | .lit (.string bytes) => bytes.length + 1
  | .lit _ => 1
  | .nil => 1
  | .ptr d => uptoBulk d + 1
  | .slice elems spare => uptoBulkAll elems + uptoBulkAll spare + 1
  | .agg parts => uptoBulkAll parts + 1
  | .iface _ d => uptoBulk d + 1
  | .map entries => uptoBulkEntries entries + 1
  | .held _ => 1
def uptoBulkAll {H : Type} : List (DataW H) → Nat
  | [] => 0
  | d :: r => uptoBulk d + uptoBulkAll r
def uptoBulkEntries {H : Type} : List (Lit × DataW H) → Nat
  | [] => 0
  | x :: r => uptoBulkEntry x + uptoBulkEntries r
def uptoBulkEntry {H : Type} : Lit × DataW H → Nat
  | (.string bytes, d) => bytes.length + uptoBulk d + 1
  | (_, d) => uptoBulk d + 1
 end
def uptoSmall : (H : Type) → List (DataW H) → Bool := fun _ ds => decide (uptoBulkAll ds ≤ 1048576)
def OpenSpec.upto (s : _root_.Go.ChangeSpec) : _root_.Go.OpenSpec := { _root_.Go.OpenSpec.ofChange s with cond := some uptoSmall }

/-- 'laws.FnFieldValid', WHERE WHAT IT READS IS OF BULK AT MOST 1048576: true; the input reads as it did. -/
def fnFieldValidUptoRow : OpenClaim := { program := "ytlppmcflgbeolaa", sum := "fd61d22a2fb94e15bc4e14351c49979b8e0a6d160e6d217b996d79d8dafc2818", func := "loop.example/homeconsole/laws.FnFieldValid", spec := "fnFieldValid", apart := false, narrowed := true }
def FnFieldValidUptoSaid : Prop := fnFieldValidUptoRow.holds Try.pinned (OpenSpec.upto fnFieldValidSpec)

/-- 'laws.FnFieldPixel', WHERE WHAT IT READS IS OF BULK AT MOST 1048576: true; the input reads as it did. -/
def fnFieldPixelUptoRow : OpenClaim := { program := "ytlppmcflgbeolaa", sum := "fd61d22a2fb94e15bc4e14351c49979b8e0a6d160e6d217b996d79d8dafc2818", func := "loop.example/homeconsole/laws.FnFieldPixel", spec := "fnFieldPixel", apart := false, narrowed := true }
def FnFieldPixelUptoSaid : Prop := fnFieldPixelUptoRow.holds Try.pinned (OpenSpec.upto fnFieldPixelSpec)

/-- 'laws.FnFieldLine', WHERE WHAT IT READS IS OF BULK AT MOST 1048576: true; the input reads as it did. -/
def fnFieldLineUptoRow : OpenClaim := { program := "ytlppmcflgbeolaa", sum := "fd61d22a2fb94e15bc4e14351c49979b8e0a6d160e6d217b996d79d8dafc2818", func := "loop.example/homeconsole/laws.FnFieldLine", spec := "fnFieldLine", apart := false, narrowed := true }
def FnFieldLineUptoSaid : Prop := fnFieldLineUptoRow.holds Try.pinned (OpenSpec.upto fnFieldLineSpec)

/-- 'laws.FnShiftField', WHERE WHAT IT READS IS OF BULK AT MOST 1048576: true; the input reads as it did. -/
def fnShiftFieldUptoRow : OpenClaim := { program := "ytlppmcflgbeolaa", sum := "fd61d22a2fb94e15bc4e14351c49979b8e0a6d160e6d217b996d79d8dafc2818", func := "loop.example/homeconsole/laws.FnShiftField", spec := "fnShiftField", apart := false, narrowed := true }
def FnShiftFieldUptoSaid : Prop := fnShiftFieldUptoRow.holds Try.pinned (OpenSpec.upto fnShiftFieldSpec)

/-- 'laws.FnFieldTile', WHERE WHAT IT READS IS OF BULK AT MOST 1048576: true; the input reads as it did. -/
def fnFieldTileUptoRow : OpenClaim := { program := "ytlppmcflgbeolaa", sum := "fd61d22a2fb94e15bc4e14351c49979b8e0a6d160e6d217b996d79d8dafc2818", func := "loop.example/homeconsole/laws.FnFieldTile", spec := "fnFieldTile", apart := false, narrowed := true }
def FnFieldTileUptoSaid : Prop := fnFieldTileUptoRow.holds Try.pinned (OpenSpec.upto fnFieldTileSpec)

/-- 'laws.FnExactFieldValid', WHERE WHAT IT READS IS OF BULK AT MOST 1048576: true; the input reads as it did. -/
def fnExactFieldValidUptoRow : OpenClaim := { program := "ytlppmcflgbeolaa", sum := "fd61d22a2fb94e15bc4e14351c49979b8e0a6d160e6d217b996d79d8dafc2818", func := "loop.example/homeconsole/laws.FnExactFieldValid", spec := "fnExactFieldValid", apart := false, narrowed := true }
def FnExactFieldValidUptoSaid : Prop := fnExactFieldValidUptoRow.holds Try.pinned (OpenSpec.upto fnExactFieldValidSpec)

/-- 'laws.FnExactFieldPixel', WHERE WHAT IT READS IS OF BULK AT MOST 1048576: true; the input reads as it did. -/
def fnExactFieldPixelUptoRow : OpenClaim := { program := "ytlppmcflgbeolaa", sum := "fd61d22a2fb94e15bc4e14351c49979b8e0a6d160e6d217b996d79d8dafc2818", func := "loop.example/homeconsole/laws.FnExactFieldPixel", spec := "fnExactFieldPixel", apart := false, narrowed := true }
def FnExactFieldPixelUptoSaid : Prop := fnExactFieldPixelUptoRow.holds Try.pinned (OpenSpec.upto fnExactFieldPixelSpec)

/-- 'laws.FnExactFieldLine', WHERE WHAT IT READS IS OF BULK AT MOST 1048576: true; the input reads as it did. -/
def fnExactFieldLineUptoRow : OpenClaim := { program := "ytlppmcflgbeolaa", sum := "fd61d22a2fb94e15bc4e14351c49979b8e0a6d160e6d217b996d79d8dafc2818", func := "loop.example/homeconsole/laws.FnExactFieldLine", spec := "fnExactFieldLine", apart := false, narrowed := true }
def FnExactFieldLineUptoSaid : Prop := fnExactFieldLineUptoRow.holds Try.pinned (OpenSpec.upto fnExactFieldLineSpec)

/-- 'laws.FnExactShiftField', WHERE WHAT IT READS IS OF BULK AT MOST 1048576: true; the input reads as it did. -/
def fnExactShiftFieldUptoRow : OpenClaim := { program := "ytlppmcflgbeolaa", sum := "fd61d22a2fb94e15bc4e14351c49979b8e0a6d160e6d217b996d79d8dafc2818", func := "loop.example/homeconsole/laws.FnExactShiftField", spec := "fnExactShiftField", apart := false, narrowed := true }
def FnExactShiftFieldUptoSaid : Prop := fnExactShiftFieldUptoRow.holds Try.pinned (OpenSpec.upto fnExactShiftFieldSpec)

end Rows
end Go.Proofs.Ytlppmcflgbeolaa
