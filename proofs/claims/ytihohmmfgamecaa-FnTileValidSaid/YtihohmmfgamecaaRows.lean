/-
  No cell of these rows narrows 'for every input' (looked for: loops, veiled, ifaces, maps, wideKeys, modest, calm, conditions, laid).
  DERIVED. THE GIVEN ROWS OF THIS SEAT. 14 by the template 'for every input the law returns true; each argument reads behind the call as it read before'; 0 by the template 'total and deterministic' (their statements: YtihohmmfgamecaaTotals.lean).
  GIVEN WITH THE SEED: the statements are not yours to turn. If you find one false, say at which input.
  Laid BY PROGRAM, IN A SANDBOX (cutbox-rows.mjs): the forced cells as the released guide's own fill.sh prints them over the translation 1ca09a26477f16a7… (all of the seat's roots in one cut). By AI agents, Wed Nov 11 2026. No macro, syntax, notation, axiom, sorry.
-/
import Derived.Test.YtihohmmfgamecaaChecked
import GoSem.Claim
import GoSem.ClaimJoined
import GoSem.ClaimMapViews
import Derived.JoinedTies
import Derived.KernelRfl
namespace Go.Proofs.Ytihohmmfgamecaa
/- THE CELL 'sum', in the pinned program and in every row, IS THE sha256 OF THE DUMP (.gsa) THAT YtihohmmfgamecaaProg.lean LOADS. Nothing in Lean hashes anything: it is a label: what it is worth is what the hold of that sum in a sandbox is worth. -/
noncomputable def Try.pinned : Pinned := { name := "ytihohmmfgamecaa", sum := "1ca09a26477f16a7f9d89b847bfbef2eef7b6ba6393b4d4354e1f1c2b85f72af", checked := Try.checked }
namespace Rows
def none {H : Type} : Left H := { results := [], args := [] }

/-- 'laws.FnTileValid': WHATEVER THE INPUT: true; the input reads as it did. -/
def fnTileValidSpec : ChangeSpec := { name := "fnTileValid", fn := fun _ => fun
  | [d] => { results := [.lit (.bool true)], args := [d] }
  | _ => none }
def fnTileValidRow : OpenClaim := { program := "ytihohmmfgamecaa", sum := "1ca09a26477f16a7f9d89b847bfbef2eef7b6ba6393b4d4354e1f1c2b85f72af", func := "loop.example/homeconsole/laws.FnTileValid", spec := "fnTileValid", apart := false }
def FnTileValidSaid : Prop := fnTileValidRow.holds Try.pinned (OpenSpec.ofChange fnTileValidSpec)

/-- ITS FALSE NEIGHBOUR: 'it returns false'. Refute it at one input. -/
def fnTileValidWrong : ChangeSpec := { name := "fnTileValid", fn := fun _ => fun
  | [d] => { results := [.lit (.bool false)], args := [d] }
  | _ => none }
def FnTileValidWrongFalsely : Prop := fnTileValidRow.holds Try.pinned (OpenSpec.ofChange fnTileValidWrong)

/-- 'laws.FnTileBytes': WHATEVER THE INPUT: true; the input reads as it did. -/
def fnTileBytesSpec : ChangeSpec := { name := "fnTileBytes", fn := fun _ => fun
  | [d] => { results := [.lit (.bool true)], args := [d] }
  | _ => none }
def fnTileBytesRow : OpenClaim := { program := "ytihohmmfgamecaa", sum := "1ca09a26477f16a7f9d89b847bfbef2eef7b6ba6393b4d4354e1f1c2b85f72af", func := "loop.example/homeconsole/laws.FnTileBytes", spec := "fnTileBytes", apart := false }
def FnTileBytesSaid : Prop := fnTileBytesRow.holds Try.pinned (OpenSpec.ofChange fnTileBytesSpec)

/-- ITS FALSE NEIGHBOUR: 'it returns false'. Refute it at one input. -/
def fnTileBytesWrong : ChangeSpec := { name := "fnTileBytes", fn := fun _ => fun
  | [d] => { results := [.lit (.bool false)], args := [d] }
  | _ => none }
def FnTileBytesWrongFalsely : Prop := fnTileBytesRow.holds Try.pinned (OpenSpec.ofChange fnTileBytesWrong)

/-- 'laws.FnReadTile': WHATEVER THE INPUT: true; the input reads as it did. -/
def fnReadTileSpec : ChangeSpec := { name := "fnReadTile", fn := fun _ => fun
  | [d] => { results := [.lit (.bool true)], args := [d] }
  | _ => none }
def fnReadTileRow : OpenClaim := { program := "ytihohmmfgamecaa", sum := "1ca09a26477f16a7f9d89b847bfbef2eef7b6ba6393b4d4354e1f1c2b85f72af", func := "loop.example/homeconsole/laws.FnReadTile", spec := "fnReadTile", apart := false }
def FnReadTileSaid : Prop := fnReadTileRow.holds Try.pinned (OpenSpec.ofChange fnReadTileSpec)

/-- ITS FALSE NEIGHBOUR: 'it returns false'. Refute it at one input. -/
def fnReadTileWrong : ChangeSpec := { name := "fnReadTile", fn := fun _ => fun
  | [d] => { results := [.lit (.bool false)], args := [d] }
  | _ => none }
def FnReadTileWrongFalsely : Prop := fnReadTileRow.holds Try.pinned (OpenSpec.ofChange fnReadTileWrong)

/-- 'laws.FnFlipTile': WHATEVER THE INPUT: true; the input reads as it did. -/
def fnFlipTileSpec : ChangeSpec := { name := "fnFlipTile", fn := fun _ => fun
  | [d] => { results := [.lit (.bool true)], args := [d] }
  | _ => none }
def fnFlipTileRow : OpenClaim := { program := "ytihohmmfgamecaa", sum := "1ca09a26477f16a7f9d89b847bfbef2eef7b6ba6393b4d4354e1f1c2b85f72af", func := "loop.example/homeconsole/laws.FnFlipTile", spec := "fnFlipTile", unfollowed := true, recurses := true, apart := false }
def FnFlipTileSaid : Prop := fnFlipTileRow.holds Try.pinned (OpenSpec.ofChange fnFlipTileSpec)

/-- ITS FALSE NEIGHBOUR: 'it returns false'. Refute it at one input. -/
def fnFlipTileWrong : ChangeSpec := { name := "fnFlipTile", fn := fun _ => fun
  | [d] => { results := [.lit (.bool false)], args := [d] }
  | _ => none }
def FnFlipTileWrongFalsely : Prop := fnFlipTileRow.holds Try.pinned (OpenSpec.ofChange fnFlipTileWrong)

/-- 'laws.FnTurnTile': WHATEVER THE INPUT: true; the input reads as it did. -/
def fnTurnTileSpec : ChangeSpec := { name := "fnTurnTile", fn := fun _ => fun
  | [d] => { results := [.lit (.bool true)], args := [d] }
  | _ => none }
def fnTurnTileRow : OpenClaim := { program := "ytihohmmfgamecaa", sum := "1ca09a26477f16a7f9d89b847bfbef2eef7b6ba6393b4d4354e1f1c2b85f72af", func := "loop.example/homeconsole/laws.FnTurnTile", spec := "fnTurnTile", unfollowed := true, recurses := true, apart := false }
def FnTurnTileSaid : Prop := fnTurnTileRow.holds Try.pinned (OpenSpec.ofChange fnTurnTileSpec)

/-- ITS FALSE NEIGHBOUR: 'it returns false'. Refute it at one input. -/
def fnTurnTileWrong : ChangeSpec := { name := "fnTurnTile", fn := fun _ => fun
  | [d] => { results := [.lit (.bool false)], args := [d] }
  | _ => none }
def FnTurnTileWrongFalsely : Prop := fnTurnTileRow.holds Try.pinned (OpenSpec.ofChange fnTurnTileWrong)

/-- 'laws.FnUsedValues': WHATEVER THE INPUT: true; the input reads as it did. -/
def fnUsedValuesSpec : ChangeSpec := { name := "fnUsedValues", fn := fun _ => fun
  | [d] => { results := [.lit (.bool true)], args := [d] }
  | _ => none }
def fnUsedValuesRow : OpenClaim := { program := "ytihohmmfgamecaa", sum := "1ca09a26477f16a7f9d89b847bfbef2eef7b6ba6393b4d4354e1f1c2b85f72af", func := "loop.example/homeconsole/laws.FnUsedValues", spec := "fnUsedValues", apart := false }
def FnUsedValuesSaid : Prop := fnUsedValuesRow.holds Try.pinned (OpenSpec.ofChange fnUsedValuesSpec)

/-- ITS FALSE NEIGHBOUR: 'it returns false'. Refute it at one input. -/
def fnUsedValuesWrong : ChangeSpec := { name := "fnUsedValues", fn := fun _ => fun
  | [d] => { results := [.lit (.bool false)], args := [d] }
  | _ => none }
def FnUsedValuesWrongFalsely : Prop := fnUsedValuesRow.holds Try.pinned (OpenSpec.ofChange fnUsedValuesWrong)

/-- 'laws.FnTilePlanes': WHATEVER THE INPUT: true; the input reads as it did. -/
def fnTilePlanesSpec : ChangeSpec := { name := "fnTilePlanes", fn := fun _ => fun
  | [d] => { results := [.lit (.bool true)], args := [d] }
  | _ => none }
def fnTilePlanesRow : OpenClaim := { program := "ytihohmmfgamecaa", sum := "1ca09a26477f16a7f9d89b847bfbef2eef7b6ba6393b4d4354e1f1c2b85f72af", func := "loop.example/homeconsole/laws.FnTilePlanes", spec := "fnTilePlanes", apart := false }
def FnTilePlanesSaid : Prop := fnTilePlanesRow.holds Try.pinned (OpenSpec.ofChange fnTilePlanesSpec)

/-- ITS FALSE NEIGHBOUR: 'it returns false'. Refute it at one input. -/
def fnTilePlanesWrong : ChangeSpec := { name := "fnTilePlanes", fn := fun _ => fun
  | [d] => { results := [.lit (.bool false)], args := [d] }
  | _ => none }
def FnTilePlanesWrongFalsely : Prop := fnTilePlanesRow.holds Try.pinned (OpenSpec.ofChange fnTilePlanesWrong)

/-- 'laws.FnTurnPixels': WHATEVER THE INPUT: true; the input reads as it did. -/
def fnTurnPixelsSpec : ChangeSpec := { name := "fnTurnPixels", fn := fun _ => fun
  | [d] => { results := [.lit (.bool true)], args := [d] }
  | _ => none }
def fnTurnPixelsRow : OpenClaim := { program := "ytihohmmfgamecaa", sum := "1ca09a26477f16a7f9d89b847bfbef2eef7b6ba6393b4d4354e1f1c2b85f72af", func := "loop.example/homeconsole/laws.FnTurnPixels", spec := "fnTurnPixels", unfollowed := true, recurses := true, apart := false }
def FnTurnPixelsSaid : Prop := fnTurnPixelsRow.holds Try.pinned (OpenSpec.ofChange fnTurnPixelsSpec)

/-- ITS FALSE NEIGHBOUR: 'it returns false'. Refute it at one input. -/
def fnTurnPixelsWrong : ChangeSpec := { name := "fnTurnPixels", fn := fun _ => fun
  | [d] => { results := [.lit (.bool false)], args := [d] }
  | _ => none }
def FnTurnPixelsWrongFalsely : Prop := fnTurnPixelsRow.holds Try.pinned (OpenSpec.ofChange fnTurnPixelsWrong)

/-- 'laws.FnExactTileValid': WHATEVER THE INPUT: true; the input reads as it did. -/
def fnExactTileValidSpec : ChangeSpec := { name := "fnExactTileValid", fn := fun _ => fun
  | [d] => { results := [.lit (.bool true)], args := [d] }
  | _ => none }
def fnExactTileValidRow : OpenClaim := { program := "ytihohmmfgamecaa", sum := "1ca09a26477f16a7f9d89b847bfbef2eef7b6ba6393b4d4354e1f1c2b85f72af", func := "loop.example/homeconsole/laws.FnExactTileValid", spec := "fnExactTileValid", apart := false }
def FnExactTileValidSaid : Prop := fnExactTileValidRow.holds Try.pinned (OpenSpec.ofChange fnExactTileValidSpec)

/-- ITS FALSE NEIGHBOUR: 'it returns false'. Refute it at one input. -/
def fnExactTileValidWrong : ChangeSpec := { name := "fnExactTileValid", fn := fun _ => fun
  | [d] => { results := [.lit (.bool false)], args := [d] }
  | _ => none }
def FnExactTileValidWrongFalsely : Prop := fnExactTileValidRow.holds Try.pinned (OpenSpec.ofChange fnExactTileValidWrong)

/-- 'laws.FnExactTileBytes': WHATEVER THE INPUT: true; the input reads as it did. -/
def fnExactTileBytesSpec : ChangeSpec := { name := "fnExactTileBytes", fn := fun _ => fun
  | [d] => { results := [.lit (.bool true)], args := [d] }
  | _ => none }
def fnExactTileBytesRow : OpenClaim := { program := "ytihohmmfgamecaa", sum := "1ca09a26477f16a7f9d89b847bfbef2eef7b6ba6393b4d4354e1f1c2b85f72af", func := "loop.example/homeconsole/laws.FnExactTileBytes", spec := "fnExactTileBytes", apart := false }
def FnExactTileBytesSaid : Prop := fnExactTileBytesRow.holds Try.pinned (OpenSpec.ofChange fnExactTileBytesSpec)

/-- ITS FALSE NEIGHBOUR: 'it returns false'. Refute it at one input. -/
def fnExactTileBytesWrong : ChangeSpec := { name := "fnExactTileBytes", fn := fun _ => fun
  | [d] => { results := [.lit (.bool false)], args := [d] }
  | _ => none }
def FnExactTileBytesWrongFalsely : Prop := fnExactTileBytesRow.holds Try.pinned (OpenSpec.ofChange fnExactTileBytesWrong)

/-- 'laws.FnExactReadTile': WHATEVER THE INPUT: true; the input reads as it did. -/
def fnExactReadTileSpec : ChangeSpec := { name := "fnExactReadTile", fn := fun _ => fun
  | [d] => { results := [.lit (.bool true)], args := [d] }
  | _ => none }
def fnExactReadTileRow : OpenClaim := { program := "ytihohmmfgamecaa", sum := "1ca09a26477f16a7f9d89b847bfbef2eef7b6ba6393b4d4354e1f1c2b85f72af", func := "loop.example/homeconsole/laws.FnExactReadTile", spec := "fnExactReadTile", apart := false }
def FnExactReadTileSaid : Prop := fnExactReadTileRow.holds Try.pinned (OpenSpec.ofChange fnExactReadTileSpec)

/-- ITS FALSE NEIGHBOUR: 'it returns false'. Refute it at one input. -/
def fnExactReadTileWrong : ChangeSpec := { name := "fnExactReadTile", fn := fun _ => fun
  | [d] => { results := [.lit (.bool false)], args := [d] }
  | _ => none }
def FnExactReadTileWrongFalsely : Prop := fnExactReadTileRow.holds Try.pinned (OpenSpec.ofChange fnExactReadTileWrong)

/-- 'laws.FnExactFlipTile': WHATEVER THE INPUT: true; the input reads as it did. -/
def fnExactFlipTileSpec : ChangeSpec := { name := "fnExactFlipTile", fn := fun _ => fun
  | [d1, d2, d3] => { results := [.lit (.bool true)], args := [d1, d2, d3] }
  | _ => none }
def fnExactFlipTileRow : OpenClaim := { program := "ytihohmmfgamecaa", sum := "1ca09a26477f16a7f9d89b847bfbef2eef7b6ba6393b4d4354e1f1c2b85f72af", func := "loop.example/homeconsole/laws.FnExactFlipTile", spec := "fnExactFlipTile", unfollowed := true, recurses := true, apart := false }
def FnExactFlipTileSaid : Prop := fnExactFlipTileRow.holds Try.pinned (OpenSpec.ofChange fnExactFlipTileSpec)

/-- ITS FALSE NEIGHBOUR: 'it returns false'. Refute it at one input. -/
def fnExactFlipTileWrong : ChangeSpec := { name := "fnExactFlipTile", fn := fun _ => fun
  | [d1, d2, d3] => { results := [.lit (.bool false)], args := [d1, d2, d3] }
  | _ => none }
def FnExactFlipTileWrongFalsely : Prop := fnExactFlipTileRow.holds Try.pinned (OpenSpec.ofChange fnExactFlipTileWrong)

/-- 'laws.FnExactTurnTile': WHATEVER THE INPUT: true; the input reads as it did. -/
def fnExactTurnTileSpec : ChangeSpec := { name := "fnExactTurnTile", fn := fun _ => fun
  | [d] => { results := [.lit (.bool true)], args := [d] }
  | _ => none }
def fnExactTurnTileRow : OpenClaim := { program := "ytihohmmfgamecaa", sum := "1ca09a26477f16a7f9d89b847bfbef2eef7b6ba6393b4d4354e1f1c2b85f72af", func := "loop.example/homeconsole/laws.FnExactTurnTile", spec := "fnExactTurnTile", unfollowed := true, recurses := true, apart := false }
def FnExactTurnTileSaid : Prop := fnExactTurnTileRow.holds Try.pinned (OpenSpec.ofChange fnExactTurnTileSpec)

/-- ITS FALSE NEIGHBOUR: 'it returns false'. Refute it at one input. -/
def fnExactTurnTileWrong : ChangeSpec := { name := "fnExactTurnTile", fn := fun _ => fun
  | [d] => { results := [.lit (.bool false)], args := [d] }
  | _ => none }
def FnExactTurnTileWrongFalsely : Prop := fnExactTurnTileRow.holds Try.pinned (OpenSpec.ofChange fnExactTurnTileWrong)

/-- 'laws.FnExactUsedValues': WHATEVER THE INPUT: true; the input reads as it did. -/
def fnExactUsedValuesSpec : ChangeSpec := { name := "fnExactUsedValues", fn := fun _ => fun
  | [d] => { results := [.lit (.bool true)], args := [d] }
  | _ => none }
def fnExactUsedValuesRow : OpenClaim := { program := "ytihohmmfgamecaa", sum := "1ca09a26477f16a7f9d89b847bfbef2eef7b6ba6393b4d4354e1f1c2b85f72af", func := "loop.example/homeconsole/laws.FnExactUsedValues", spec := "fnExactUsedValues", apart := false }
def FnExactUsedValuesSaid : Prop := fnExactUsedValuesRow.holds Try.pinned (OpenSpec.ofChange fnExactUsedValuesSpec)

/-- ITS FALSE NEIGHBOUR: 'it returns false'. Refute it at one input. -/
def fnExactUsedValuesWrong : ChangeSpec := { name := "fnExactUsedValues", fn := fun _ => fun
  | [d] => { results := [.lit (.bool false)], args := [d] }
  | _ => none }
def FnExactUsedValuesWrongFalsely : Prop := fnExactUsedValuesRow.holds Try.pinned (OpenSpec.ofChange fnExactUsedValuesWrong)

/- THE SECOND FORM. 'bulk': how many values and letters a reading holds, each counted each time it is reached (what is shared counts as often as it is met; a slice's spare places count too). A statement '..UptoSaid' is the law's where the arguments, and the package variables that the reading takes, are together of bulk at most 1048576: NARROWER than '..Said'. Prove '..Said' where nothing that the law and all that it calls make is longer than what came in: it says more and counts as full. Else prove '..UptoSaid'. A law counts once. -/
mutual
def uptoBulk {H : Type} : DataW H → Nat
  | .lit (.string bytes) => bytes.length + 1
  | .lit _ => 1
  | .nil => 1
  | .ptr d => uptoBulk d + 1
  | .slice elems spare => uptoBulkAll elems + uptoBulkAll spare + 1
  | .agg parts => uptoBulkAll parts + 1
  | .iface _ d => uptoBulk d + 1
  | .map entries => uptoBulkEntries entries + 1
  | .held _ => 1
def uptoBulkAll {H : Type} : List (DataW H) → Nat
  | [] => 0
  | d :: r => uptoBulk d + uptoBulkAll r
def uptoBulkEntries {H : Type} : List (Lit × DataW H) → Nat
  | [] => 0
  | x :: r => uptoBulkEntry x + uptoBulkEntries r
def uptoBulkEntry {H : Type} : Lit × DataW H → Nat
  | (.string bytes, d) => bytes.length + uptoBulk d + 1
  | (_, d) => uptoBulk d + 1
 end
def uptoSmall : (H : Type) → List (DataW H) → Bool := fun _ ds => decide (uptoBulkAll ds ≤ 1048576)
def OpenSpec.upto (s : _root_.Go.ChangeSpec) : _root_.Go.OpenSpec := { _root_.Go.OpenSpec.ofChange s with cond := some uptoSmall }

/-- 'laws.FnTileValid', WHERE WHAT IT READS IS OF BULK AT MOST 1048576: true; the input reads as it did. -/
def fnTileValidUptoRow : OpenClaim := { program := "ytihohmmfgamecaa", sum := "1ca09a26477f16a7f9d89b847bfbef2eef7b6ba6393b4d4354e1f1c2b85f72af", func := "loop.example/homeconsole/laws.FnTileValid", spec := "fnTileValid", apart := false, narrowed := true }
def FnTileValidUptoSaid : Prop := fnTileValidUptoRow.holds Try.pinned (OpenSpec.upto fnTileValidSpec)

/-- 'laws.FnTileBytes', WHERE WHAT IT READS IS OF BULK AT MOST 1048576: true; the input reads as it did. -/
def fnTileBytesUptoRow : OpenClaim := { program := "ytihohmmfgamecaa", sum := "1ca09a26477f16a7f9d89b847bfbef2eef7b6ba6393b4d4354e1f1c2b85f72af", func := "loop.example/homeconsole/laws.FnTileBytes", spec := "fnTileBytes", apart := false, narrowed := true }
def FnTileBytesUptoSaid : Prop := fnTileBytesUptoRow.holds Try.pinned (OpenSpec.upto fnTileBytesSpec)

/-- 'laws.FnReadTile', WHERE WHAT IT READS IS OF BULK AT MOST 1048576: true; the input reads as it did. -/
def fnReadTileUptoRow : OpenClaim := { program := "ytihohmmfgamecaa", sum := "1ca09a26477f16a7f9d89b847bfbef2eef7b6ba6393b4d4354e1f1c2b85f72af", func := "loop.example/homeconsole/laws.FnReadTile", spec := "fnReadTile", apart := false, narrowed := true }
def FnReadTileUptoSaid : Prop := fnReadTileUptoRow.holds Try.pinned (OpenSpec.upto fnReadTileSpec)

/-- 'laws.FnFlipTile', WHERE WHAT IT READS IS OF BULK AT MOST 1048576: true; the input reads as it did. -/
def fnFlipTileUptoRow : OpenClaim := { program := "ytihohmmfgamecaa", sum := "1ca09a26477f16a7f9d89b847bfbef2eef7b6ba6393b4d4354e1f1c2b85f72af", func := "loop.example/homeconsole/laws.FnFlipTile", spec := "fnFlipTile", unfollowed := true, recurses := true, apart := false, narrowed := true }
def FnFlipTileUptoSaid : Prop := fnFlipTileUptoRow.holds Try.pinned (OpenSpec.upto fnFlipTileSpec)

/-- 'laws.FnTurnTile', WHERE WHAT IT READS IS OF BULK AT MOST 1048576: true; the input reads as it did. -/
def fnTurnTileUptoRow : OpenClaim := { program := "ytihohmmfgamecaa", sum := "1ca09a26477f16a7f9d89b847bfbef2eef7b6ba6393b4d4354e1f1c2b85f72af", func := "loop.example/homeconsole/laws.FnTurnTile", spec := "fnTurnTile", unfollowed := true, recurses := true, apart := false, narrowed := true }
def FnTurnTileUptoSaid : Prop := fnTurnTileUptoRow.holds Try.pinned (OpenSpec.upto fnTurnTileSpec)

/-- 'laws.FnUsedValues', WHERE WHAT IT READS IS OF BULK AT MOST 1048576: true; the input reads as it did. -/
def fnUsedValuesUptoRow : OpenClaim := { program := "ytihohmmfgamecaa", sum := "1ca09a26477f16a7f9d89b847bfbef2eef7b6ba6393b4d4354e1f1c2b85f72af", func := "loop.example/homeconsole/laws.FnUsedValues", spec := "fnUsedValues", apart := false, narrowed := true }
def FnUsedValuesUptoSaid : Prop := fnUsedValuesUptoRow.holds Try.pinned (OpenSpec.upto fnUsedValuesSpec)

/-- 'laws.FnTilePlanes', WHERE WHAT IT READS IS OF BULK AT MOST 1048576: true; the input reads as it did. -/
def fnTilePlanesUptoRow : OpenClaim := { program := "ytihohmmfgamecaa", sum := "1ca09a26477f16a7f9d89b847bfbef2eef7b6ba6393b4d4354e1f1c2b85f72af", func := "loop.example/homeconsole/laws.FnTilePlanes", spec := "fnTilePlanes", apart := false, narrowed := true }
def FnTilePlanesUptoSaid : Prop := fnTilePlanesUptoRow.holds Try.pinned (OpenSpec.upto fnTilePlanesSpec)

/-- 'laws.FnTurnPixels', WHERE WHAT IT READS IS OF BULK AT MOST 1048576: true; the input reads as it did. -/
def fnTurnPixelsUptoRow : OpenClaim := { program := "ytihohmmfgamecaa", sum := "1ca09a26477f16a7f9d89b847bfbef2eef7b6ba6393b4d4354e1f1c2b85f72af", func := "loop.example/homeconsole/laws.FnTurnPixels", spec := "fnTurnPixels", unfollowed := true, recurses := true, apart := false, narrowed := true }
def FnTurnPixelsUptoSaid : Prop := fnTurnPixelsUptoRow.holds Try.pinned (OpenSpec.upto fnTurnPixelsSpec)

/-- 'laws.FnExactTileValid', WHERE WHAT IT READS IS OF BULK AT MOST 1048576: true; the input reads as it did. -/
def fnExactTileValidUptoRow : OpenClaim := { program := "ytihohmmfgamecaa", sum := "1ca09a26477f16a7f9d89b847bfbef2eef7b6ba6393b4d4354e1f1c2b85f72af", func := "loop.example/homeconsole/laws.FnExactTileValid", spec := "fnExactTileValid", apart := false, narrowed := true }
def FnExactTileValidUptoSaid : Prop := fnExactTileValidUptoRow.holds Try.pinned (OpenSpec.upto fnExactTileValidSpec)

/-- 'laws.FnExactTileBytes', WHERE WHAT IT READS IS OF BULK AT MOST 1048576: true; the input reads as it did. -/
def fnExactTileBytesUptoRow : OpenClaim := { program := "ytihohmmfgamecaa", sum := "1ca09a26477f16a7f9d89b847bfbef2eef7b6ba6393b4d4354e1f1c2b85f72af", func := "loop.example/homeconsole/laws.FnExactTileBytes", spec := "fnExactTileBytes", apart := false, narrowed := true }
def FnExactTileBytesUptoSaid : Prop := fnExactTileBytesUptoRow.holds Try.pinned (OpenSpec.upto fnExactTileBytesSpec)

/-- 'laws.FnExactReadTile', WHERE WHAT IT READS IS OF BULK AT MOST 1048576: true; the input reads as it did. -/
def fnExactReadTileUptoRow : OpenClaim := { program := "ytihohmmfgamecaa", sum := "1ca09a26477f16a7f9d89b847bfbef2eef7b6ba6393b4d4354e1f1c2b85f72af", func := "loop.example/homeconsole/laws.FnExactReadTile", spec := "fnExactReadTile", apart := false, narrowed := true }
def FnExactReadTileUptoSaid : Prop := fnExactReadTileUptoRow.holds Try.pinned (OpenSpec.upto fnExactReadTileSpec)

/-- 'laws.FnExactFlipTile', WHERE WHAT IT READS IS OF BULK AT MOST 1048576: true; the input reads as it did. -/
def fnExactFlipTileUptoRow : OpenClaim := { program := "ytihohmmfgamecaa", sum := "1ca09a26477f16a7f9d89b847bfbef2eef7b6ba6393b4d4354e1f1c2b85f72af", func := "loop.example/homeconsole/laws.FnExactFlipTile", spec := "fnExactFlipTile", unfollowed := true, recurses := true, apart := false, narrowed := true }
def FnExactFlipTileUptoSaid : Prop := fnExactFlipTileUptoRow.holds Try.pinned (OpenSpec.upto fnExactFlipTileSpec)

/-- 'laws.FnExactTurnTile', WHERE WHAT IT READS IS OF BULK AT MOST 1048576: true; the input reads as it did. -/
def fnExactTurnTileUptoRow : OpenClaim := { program := "ytihohmmfgamecaa", sum := "1ca09a26477f16a7f9d89b847bfbef2eef7b6ba6393b4d4354e1f1c2b85f72af", func := "loop.example/homeconsole/laws.FnExactTurnTile", spec := "fnExactTurnTile", unfollowed := true, recurses := true, apart := false, narrowed := true }
def FnExactTurnTileUptoSaid : Prop := fnExactTurnTileUptoRow.holds Try.pinned (OpenSpec.upto fnExactTurnTileSpec)

/-- 'laws.FnExactUsedValues', WHERE WHAT IT READS IS OF BULK AT MOST 1048576: true; the input reads as it did. -/
def fnExactUsedValuesUptoRow : OpenClaim := { program := "ytihohmmfgamecaa", sum := "1ca09a26477f16a7f9d89b847bfbef2eef7b6ba6393b4d4354e1f1c2b85f72af", func := "loop.example/homeconsole/laws.FnExactUsedValues", spec := "fnExactUsedValues", apart := false, narrowed := true }
def FnExactUsedValuesUptoSaid : Prop := fnExactUsedValuesUptoRow.holds Try.pinned (OpenSpec.upto fnExactUsedValuesSpec)

end Rows
end Go.Proofs.Ytihohmmfgamecaa
