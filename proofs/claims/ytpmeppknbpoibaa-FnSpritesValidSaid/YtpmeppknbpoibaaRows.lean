/-
  No cell of these rows narrows 'for every input' (looked for: loops, veiled, ifaces, maps, wideKeys, modest, calm, conditions, laid).
  DERIVED. THE GIVEN ROWS OF THIS SEAT. 10 by the template 'for every input the law returns true; each argument reads behind the call as it read before'; 0 by the template 'total and deterministic' (their statements: YtpmeppknbpoibaaTotals.lean).
  GIVEN WITH THE SEED: the statements are not yours to turn. If you find one false, say at which input.
  Laid BY PROGRAM, IN A SANDBOX (cutbox-rows.mjs): the forced cells as the released guide's own fill.sh prints them over the translation 6925ce27b7fe5225… (all of the seat's roots in one cut). By AI agents, Wed Nov 11 2026. No macro, syntax, notation, axiom, sorry.
-/
import Derived.Test.YtpmeppknbpoibaaChecked
import GoSem.Claim
import GoSem.ClaimJoined
import GoSem.ClaimMapViews
import Derived.JoinedTies
import Derived.KernelRfl
namespace Go.Proofs.Ytpmeppknbpoibaa
/- THE CELL 'sum', in the pinned program and in every row, IS THE sha256 OF THE DUMP (.gsa) THAT YtpmeppknbpoibaaProg.lean LOADS. Nothing in Lean hashes anything: it is a label: what it is worth is what the hold of that sum in a sandbox is worth. -/
noncomputable def Try.pinned : Pinned := { name := "ytpmeppknbpoibaa", sum := "6925ce27b7fe52258bdcd717d4d23261e899cfa83d5a6b7b14b51fbe102d0ad9", checked := Try.checked }
namespace Rows
def none {H : Type} : Left H := { results := [], args := [] }

/-- 'laws.FnSpritesValid': WHATEVER THE INPUT: true; the input reads as it did. -/
def fnSpritesValidSpec : ChangeSpec := { name := "fnSpritesValid", fn := fun _ => fun
  | [d] => { results := [.lit (.bool true)], args := [d] }
  | _ => none }
def fnSpritesValidRow : OpenClaim := { program := "ytpmeppknbpoibaa", sum := "6925ce27b7fe52258bdcd717d4d23261e899cfa83d5a6b7b14b51fbe102d0ad9", func := "loop.example/homeconsole/laws.FnSpritesValid", spec := "fnSpritesValid", apart := false }
def FnSpritesValidSaid : Prop := fnSpritesValidRow.holds Try.pinned (OpenSpec.ofChange fnSpritesValidSpec)

/-- ITS FALSE NEIGHBOUR: 'it returns false'. Refute it at one input. -/
def fnSpritesValidWrong : ChangeSpec := { name := "fnSpritesValid", fn := fun _ => fun
  | [d] => { results := [.lit (.bool false)], args := [d] }
  | _ => none }
def FnSpritesValidWrongFalsely : Prop := fnSpritesValidRow.holds Try.pinned (OpenSpec.ofChange fnSpritesValidWrong)

/-- 'laws.FnSpritesOnLine': WHATEVER THE INPUT: true; the input reads as it did. -/
def fnSpritesOnLineSpec : ChangeSpec := { name := "fnSpritesOnLine", fn := fun _ => fun
  | [d] => { results := [.lit (.bool true)], args := [d] }
  | _ => none }
def fnSpritesOnLineRow : OpenClaim := { program := "ytpmeppknbpoibaa", sum := "6925ce27b7fe52258bdcd717d4d23261e899cfa83d5a6b7b14b51fbe102d0ad9", func := "loop.example/homeconsole/laws.FnSpritesOnLine", spec := "fnSpritesOnLine", apart := false }
def FnSpritesOnLineSaid : Prop := fnSpritesOnLineRow.holds Try.pinned (OpenSpec.ofChange fnSpritesOnLineSpec)

/-- ITS FALSE NEIGHBOUR: 'it returns false'. Refute it at one input. -/
def fnSpritesOnLineWrong : ChangeSpec := { name := "fnSpritesOnLine", fn := fun _ => fun
  | [d] => { results := [.lit (.bool false)], args := [d] }
  | _ => none }
def FnSpritesOnLineWrongFalsely : Prop := fnSpritesOnLineRow.holds Try.pinned (OpenSpec.ofChange fnSpritesOnLineWrong)

/-- 'laws.FnSpriteAt': WHATEVER THE INPUT: true; the input reads as it did. -/
def fnSpriteAtSpec : ChangeSpec := { name := "fnSpriteAt", fn := fun _ => fun
  | [d] => { results := [.lit (.bool true)], args := [d] }
  | _ => none }
def fnSpriteAtRow : OpenClaim := { program := "ytpmeppknbpoibaa", sum := "6925ce27b7fe52258bdcd717d4d23261e899cfa83d5a6b7b14b51fbe102d0ad9", func := "loop.example/homeconsole/laws.FnSpriteAt", spec := "fnSpriteAt", unfollowed := true, recurses := true, apart := false }
def FnSpriteAtSaid : Prop := fnSpriteAtRow.holds Try.pinned (OpenSpec.ofChange fnSpriteAtSpec)

/-- ITS FALSE NEIGHBOUR: 'it returns false'. Refute it at one input. -/
def fnSpriteAtWrong : ChangeSpec := { name := "fnSpriteAt", fn := fun _ => fun
  | [d] => { results := [.lit (.bool false)], args := [d] }
  | _ => none }
def FnSpriteAtWrongFalsely : Prop := fnSpriteAtRow.holds Try.pinned (OpenSpec.ofChange fnSpriteAtWrong)

/-- 'laws.FnSpritesHidden': WHATEVER THE INPUT: true; the input reads as it did. -/
def fnSpritesHiddenSpec : ChangeSpec := { name := "fnSpritesHidden", fn := fun _ => fun
  | [d] => { results := [.lit (.bool true)], args := [d] }
  | _ => none }
def fnSpritesHiddenRow : OpenClaim := { program := "ytpmeppknbpoibaa", sum := "6925ce27b7fe52258bdcd717d4d23261e899cfa83d5a6b7b14b51fbe102d0ad9", func := "loop.example/homeconsole/laws.FnSpritesHidden", spec := "fnSpritesHidden", apart := false }
def FnSpritesHiddenSaid : Prop := fnSpritesHiddenRow.holds Try.pinned (OpenSpec.ofChange fnSpritesHiddenSpec)

/-- ITS FALSE NEIGHBOUR: 'it returns false'. Refute it at one input. -/
def fnSpritesHiddenWrong : ChangeSpec := { name := "fnSpritesHidden", fn := fun _ => fun
  | [d] => { results := [.lit (.bool false)], args := [d] }
  | _ => none }
def FnSpritesHiddenWrongFalsely : Prop := fnSpritesHiddenRow.holds Try.pinned (OpenSpec.ofChange fnSpritesHiddenWrong)

/-- 'laws.FnFlipSprite': WHATEVER THE INPUT: true; the input reads as it did. -/
def fnFlipSpriteSpec : ChangeSpec := { name := "fnFlipSprite", fn := fun _ => fun
  | [d] => { results := [.lit (.bool true)], args := [d] }
  | _ => none }
def fnFlipSpriteRow : OpenClaim := { program := "ytpmeppknbpoibaa", sum := "6925ce27b7fe52258bdcd717d4d23261e899cfa83d5a6b7b14b51fbe102d0ad9", func := "loop.example/homeconsole/laws.FnFlipSprite", spec := "fnFlipSprite", unfollowed := true, recurses := true, apart := false }
def FnFlipSpriteSaid : Prop := fnFlipSpriteRow.holds Try.pinned (OpenSpec.ofChange fnFlipSpriteSpec)

/-- ITS FALSE NEIGHBOUR: 'it returns false'. Refute it at one input. -/
def fnFlipSpriteWrong : ChangeSpec := { name := "fnFlipSprite", fn := fun _ => fun
  | [d] => { results := [.lit (.bool false)], args := [d] }
  | _ => none }
def FnFlipSpriteWrongFalsely : Prop := fnFlipSpriteRow.holds Try.pinned (OpenSpec.ofChange fnFlipSpriteWrong)

/-- 'laws.FnSpriteLast': WHATEVER THE INPUT: true; the input reads as it did. -/
def fnSpriteLastSpec : ChangeSpec := { name := "fnSpriteLast", fn := fun _ => fun
  | [d] => { results := [.lit (.bool true)], args := [d] }
  | _ => none }
def fnSpriteLastRow : OpenClaim := { program := "ytpmeppknbpoibaa", sum := "6925ce27b7fe52258bdcd717d4d23261e899cfa83d5a6b7b14b51fbe102d0ad9", func := "loop.example/homeconsole/laws.FnSpriteLast", spec := "fnSpriteLast", unfollowed := true, recurses := true, apart := false }
def FnSpriteLastSaid : Prop := fnSpriteLastRow.holds Try.pinned (OpenSpec.ofChange fnSpriteLastSpec)

/-- ITS FALSE NEIGHBOUR: 'it returns false'. Refute it at one input. -/
def fnSpriteLastWrong : ChangeSpec := { name := "fnSpriteLast", fn := fun _ => fun
  | [d] => { results := [.lit (.bool false)], args := [d] }
  | _ => none }
def FnSpriteLastWrongFalsely : Prop := fnSpriteLastRow.holds Try.pinned (OpenSpec.ofChange fnSpriteLastWrong)

/-- 'laws.FnExactSpritesValid': WHATEVER THE INPUT: true; the input reads as it did. -/
def fnExactSpritesValidSpec : ChangeSpec := { name := "fnExactSpritesValid", fn := fun _ => fun
  | [d1, d2] => { results := [.lit (.bool true)], args := [d1, d2] }
  | _ => none }
def fnExactSpritesValidRow : OpenClaim := { program := "ytpmeppknbpoibaa", sum := "6925ce27b7fe52258bdcd717d4d23261e899cfa83d5a6b7b14b51fbe102d0ad9", func := "loop.example/homeconsole/laws.FnExactSpritesValid", spec := "fnExactSpritesValid", apart := false }
def FnExactSpritesValidSaid : Prop := fnExactSpritesValidRow.holds Try.pinned (OpenSpec.ofChange fnExactSpritesValidSpec)

/-- ITS FALSE NEIGHBOUR: 'it returns false'. Refute it at one input. -/
def fnExactSpritesValidWrong : ChangeSpec := { name := "fnExactSpritesValid", fn := fun _ => fun
  | [d1, d2] => { results := [.lit (.bool false)], args := [d1, d2] }
  | _ => none }
def FnExactSpritesValidWrongFalsely : Prop := fnExactSpritesValidRow.holds Try.pinned (OpenSpec.ofChange fnExactSpritesValidWrong)

/-- 'laws.FnExactSpritesOnLine': WHATEVER THE INPUT: true; the input reads as it did. -/
def fnExactSpritesOnLineSpec : ChangeSpec := { name := "fnExactSpritesOnLine", fn := fun _ => fun
  | [d1, d2, d3] => { results := [.lit (.bool true)], args := [d1, d2, d3] }
  | _ => none }
def fnExactSpritesOnLineRow : OpenClaim := { program := "ytpmeppknbpoibaa", sum := "6925ce27b7fe52258bdcd717d4d23261e899cfa83d5a6b7b14b51fbe102d0ad9", func := "loop.example/homeconsole/laws.FnExactSpritesOnLine", spec := "fnExactSpritesOnLine", apart := false }
def FnExactSpritesOnLineSaid : Prop := fnExactSpritesOnLineRow.holds Try.pinned (OpenSpec.ofChange fnExactSpritesOnLineSpec)

/-- ITS FALSE NEIGHBOUR: 'it returns false'. Refute it at one input. -/
def fnExactSpritesOnLineWrong : ChangeSpec := { name := "fnExactSpritesOnLine", fn := fun _ => fun
  | [d1, d2, d3] => { results := [.lit (.bool false)], args := [d1, d2, d3] }
  | _ => none }
def FnExactSpritesOnLineWrongFalsely : Prop := fnExactSpritesOnLineRow.holds Try.pinned (OpenSpec.ofChange fnExactSpritesOnLineWrong)

/-- 'laws.FnExactSpriteAt': WHATEVER THE INPUT: true; the input reads as it did. -/
def fnExactSpriteAtSpec : ChangeSpec := { name := "fnExactSpriteAt", fn := fun _ => fun
  | [d1, d2, d3, d4] => { results := [.lit (.bool true)], args := [d1, d2, d3, d4] }
  | _ => none }
def fnExactSpriteAtRow : OpenClaim := { program := "ytpmeppknbpoibaa", sum := "6925ce27b7fe52258bdcd717d4d23261e899cfa83d5a6b7b14b51fbe102d0ad9", func := "loop.example/homeconsole/laws.FnExactSpriteAt", spec := "fnExactSpriteAt", unfollowed := true, recurses := true, apart := false }
def FnExactSpriteAtSaid : Prop := fnExactSpriteAtRow.holds Try.pinned (OpenSpec.ofChange fnExactSpriteAtSpec)

/-- ITS FALSE NEIGHBOUR: 'it returns false'. Refute it at one input. -/
def fnExactSpriteAtWrong : ChangeSpec := { name := "fnExactSpriteAt", fn := fun _ => fun
  | [d1, d2, d3, d4] => { results := [.lit (.bool false)], args := [d1, d2, d3, d4] }
  | _ => none }
def FnExactSpriteAtWrongFalsely : Prop := fnExactSpriteAtRow.holds Try.pinned (OpenSpec.ofChange fnExactSpriteAtWrong)

/-- 'laws.FnExactSpritesHidden': WHATEVER THE INPUT: true; the input reads as it did. -/
def fnExactSpritesHiddenSpec : ChangeSpec := { name := "fnExactSpritesHidden", fn := fun _ => fun
  | [d1, d2, d3] => { results := [.lit (.bool true)], args := [d1, d2, d3] }
  | _ => none }
def fnExactSpritesHiddenRow : OpenClaim := { program := "ytpmeppknbpoibaa", sum := "6925ce27b7fe52258bdcd717d4d23261e899cfa83d5a6b7b14b51fbe102d0ad9", func := "loop.example/homeconsole/laws.FnExactSpritesHidden", spec := "fnExactSpritesHidden", apart := false }
def FnExactSpritesHiddenSaid : Prop := fnExactSpritesHiddenRow.holds Try.pinned (OpenSpec.ofChange fnExactSpritesHiddenSpec)

/-- ITS FALSE NEIGHBOUR: 'it returns false'. Refute it at one input. -/
def fnExactSpritesHiddenWrong : ChangeSpec := { name := "fnExactSpritesHidden", fn := fun _ => fun
  | [d1, d2, d3] => { results := [.lit (.bool false)], args := [d1, d2, d3] }
  | _ => none }
def FnExactSpritesHiddenWrongFalsely : Prop := fnExactSpritesHiddenRow.holds Try.pinned (OpenSpec.ofChange fnExactSpritesHiddenWrong)

/- THE SECOND FORM. 'bulk': how many values and letters a reading holds, each counted each time it is reached (what is shared counts as often as it is met; a slice's spare places count too). A statement '..UptoSaid' is the law's where the arguments, and the package variables that the reading takes, are together of bulk at most 1048576: NARROWER than '..Said'. Prove '..Said' where nothing that the law and all that it calls make is longer than what came in: it says more and counts as full. Else prove '..UptoSaid'. A law counts once. -/
mutual
def uptoBulk {H : Type} : DataW H → Nat
  | .lit (.string bytes) => bytes.length + 1
  | .lit _ => 1
  | .nil => 1
  | .ptr d => uptoBulk d + 1
  | .slice elems spare => uptoBulkAll elems + uptoBulkAll spare + 1
  | .agg parts => uptoBulkAll parts + 1
  | .iface _ d => uptoBulk d + 1
  | .map entries => uptoBulkEntries entries + 1
  | .held _ => 1
def uptoBulkAll {H : Type} : List (DataW H) → Nat
  | [] => 0
  | d :: r => uptoBulk d + uptoBulkAll r
def uptoBulkEntries {H : Type} : List (Lit × DataW H) → Nat
  | [] => 0
  | x :: r => uptoBulkEntry x + uptoBulkEntries r
def uptoBulkEntry {H : Type} : Lit × DataW H → Nat
  | (.string bytes, d) => bytes.length + uptoBulk d + 1
  | (_, d) => uptoBulk d + 1
 end
def uptoSmall : (H : Type) → List (DataW H) → Bool := fun _ ds => decide (uptoBulkAll ds ≤ 1048576)
def OpenSpec.upto (s : _root_.Go.ChangeSpec) : _root_.Go.OpenSpec := { _root_.Go.OpenSpec.ofChange s with cond := some uptoSmall }

/-- 'laws.FnSpritesValid', WHERE WHAT IT READS IS OF BULK AT MOST 1048576: true; the input reads as it did. -/
def fnSpritesValidUptoRow : OpenClaim := { program := "ytpmeppknbpoibaa", sum := "6925ce27b7fe52258bdcd717d4d23261e899cfa83d5a6b7b14b51fbe102d0ad9", func := "loop.example/homeconsole/laws.FnSpritesValid", spec := "fnSpritesValid", apart := false, narrowed := true }
def FnSpritesValidUptoSaid : Prop := fnSpritesValidUptoRow.holds Try.pinned (OpenSpec.upto fnSpritesValidSpec)

/-- 'laws.FnSpritesOnLine', WHERE WHAT IT READS IS OF BULK AT MOST 1048576: true; the input reads as it did. -/
def fnSpritesOnLineUptoRow : OpenClaim := { program := "ytpmeppknbpoibaa", sum := "6925ce27b7fe52258bdcd717d4d23261e899cfa83d5a6b7b14b51fbe102d0ad9", func := "loop.example/homeconsole/laws.FnSpritesOnLine", spec := "fnSpritesOnLine", apart := false, narrowed := true }
def FnSpritesOnLineUptoSaid : Prop := fnSpritesOnLineUptoRow.holds Try.pinned (OpenSpec.upto fnSpritesOnLineSpec)

/-- 'laws.FnSpriteAt', WHERE WHAT IT READS IS OF BULK AT MOST 1048576: true; the input reads as it did. -/
def fnSpriteAtUptoRow : OpenClaim := { program := "ytpmeppknbpoibaa", sum := "6925ce27b7fe52258bdcd717d4d23261e899cfa83d5a6b7b14b51fbe102d0ad9", func := "loop.example/homeconsole/laws.FnSpriteAt", spec := "fnSpriteAt", unfollowed := true, recurses := true, apart := false, narrowed := true }
def FnSpriteAtUptoSaid : Prop := fnSpriteAtUptoRow.holds Try.pinned (OpenSpec.upto fnSpriteAtSpec)

/-- 'laws.FnSpritesHidden', WHERE WHAT IT READS IS OF BULK AT MOST 1048576: true; the input reads as it did. -/
def fnSpritesHiddenUptoRow : OpenClaim := { program := "ytpmeppknbpoibaa", sum := "6925ce27b7fe52258bdcd717d4d23261e899cfa83d5a6b7b14b51fbe102d0ad9", func := "loop.example/homeconsole/laws.FnSpritesHidden", spec := "fnSpritesHidden", apart := false, narrowed := true }
def FnSpritesHiddenUptoSaid : Prop := fnSpritesHiddenUptoRow.holds Try.pinned (OpenSpec.upto fnSpritesHiddenSpec)

/-- 'laws.FnFlipSprite', WHERE WHAT IT READS IS OF BULK AT MOST 1048576: true; the input reads as it did. -/
def fnFlipSpriteUptoRow : OpenClaim := { program := "ytpmeppknbpoibaa", sum := "6925ce27b7fe52258bdcd717d4d23261e899cfa83d5a6b7b14b51fbe102d0ad9", func := "loop.example/homeconsole/laws.FnFlipSprite", spec := "fnFlipSprite", unfollowed := true, recurses := true, apart := false, narrowed := true }
def FnFlipSpriteUptoSaid : Prop := fnFlipSpriteUptoRow.holds Try.pinned (OpenSpec.upto fnFlipSpriteSpec)

/-- 'laws.FnSpriteLast', WHERE WHAT IT READS IS OF BULK AT MOST 1048576: true; the input reads as it did. -/
def fnSpriteLastUptoRow : OpenClaim := { program := "ytpmeppknbpoibaa", sum := "6925ce27b7fe52258bdcd717d4d23261e899cfa83d5a6b7b14b51fbe102d0ad9", func := "loop.example/homeconsole/laws.FnSpriteLast", spec := "fnSpriteLast", unfollowed := true, recurses := true, apart := false, narrowed := true }
def FnSpriteLastUptoSaid : Prop := fnSpriteLastUptoRow.holds Try.pinned (OpenSpec.upto fnSpriteLastSpec)

/-- 'laws.FnExactSpritesValid', WHERE WHAT IT READS IS OF BULK AT MOST 1048576: true; the input reads as it did. -/
def fnExactSpritesValidUptoRow : OpenClaim := { program := "ytpmeppknbpoibaa", sum := "6925ce27b7fe52258bdcd717d4d23261e899cfa83d5a6b7b14b51fbe102d0ad9", func := "loop.example/homeconsole/laws.FnExactSpritesValid", spec := "fnExactSpritesValid", apart := false, narrowed := true }
def FnExactSpritesValidUptoSaid : Prop := fnExactSpritesValidUptoRow.holds Try.pinned (OpenSpec.upto fnExactSpritesValidSpec)

/-- 'laws.FnExactSpritesOnLine', WHERE WHAT IT READS IS OF BULK AT MOST 1048576: true; the input reads as it did. -/
def fnExactSpritesOnLineUptoRow : OpenClaim := { program := "ytpmeppknbpoibaa", sum := "6925ce27b7fe52258bdcd717d4d23261e899cfa83d5a6b7b14b51fbe102d0ad9", func := "loop.example/homeconsole/laws.FnExactSpritesOnLine", spec := "fnExactSpritesOnLine", apart := false, narrowed := true }
def FnExactSpritesOnLineUptoSaid : Prop := fnExactSpritesOnLineUptoRow.holds Try.pinned (OpenSpec.upto fnExactSpritesOnLineSpec)

/-- 'laws.FnExactSpriteAt', WHERE WHAT IT READS IS OF BULK AT MOST 1048576: true; the input reads as it did. -/
def fnExactSpriteAtUptoRow : OpenClaim := { program := "ytpmeppknbpoibaa", sum := "6925ce27b7fe52258bdcd717d4d23261e899cfa83d5a6b7b14b51fbe102d0ad9", func := "loop.example/homeconsole/laws.FnExactSpriteAt", spec := "fnExactSpriteAt", unfollowed := true, recurses := true, apart := false, narrowed := true }
def FnExactSpriteAtUptoSaid : Prop := fnExactSpriteAtUptoRow.holds Try.pinned (OpenSpec.upto fnExactSpriteAtSpec)

/-- 'laws.FnExactSpritesHidden', WHERE WHAT IT READS IS OF BULK AT MOST 1048576: true; the input reads as it did. -/
def fnExactSpritesHiddenUptoRow : OpenClaim := { program := "ytpmeppknbpoibaa", sum := "6925ce27b7fe52258bdcd717d4d23261e899cfa83d5a6b7b14b51fbe102d0ad9", func := "loop.example/homeconsole/laws.FnExactSpritesHidden", spec := "fnExactSpritesHidden", apart := false, narrowed := true }
def FnExactSpritesHiddenUptoSaid : Prop := fnExactSpritesHiddenUptoRow.holds Try.pinned (OpenSpec.upto fnExactSpritesHiddenSpec)

end Rows
end Go.Proofs.Ytpmeppknbpoibaa
