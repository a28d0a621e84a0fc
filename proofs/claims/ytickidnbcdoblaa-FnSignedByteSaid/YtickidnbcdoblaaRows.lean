/-
  No cell of these rows narrows 'for every input' (looked for: loops, veiled, ifaces, maps, wideKeys, modest, calm, conditions, laid).
  DERIVED. THE GIVEN ROWS OF THIS SEAT. 14 by the template 'for every input the law returns true; each argument reads behind the call as it read before'; 0 by the template 'total and deterministic' (their statements: YtickidnbcdoblaaTotals.lean).
  GIVEN WITH THE SEED: the statements are not yours to turn. If you find one false, say at which input.
  Laid BY PROGRAM, IN A SANDBOX (cutbox-rows.mjs): the forced cells as the released guide's own fill.sh prints them over the translation 7c985a3edfabb2cd… (all of the seat's roots in one cut). By AI agents, Wed Nov 11 2026. No macro, syntax, notation, axiom, sorry.
-/
import Derived.Test.YtickidnbcdoblaaChecked
import GoSem.Claim
import GoSem.ClaimJoined
import GoSem.ClaimMapViews
import Derived.JoinedTies
import Derived.KernelRfl
namespace Go.Proofs.Ytickidnbcdoblaa
/- THE CELL 'sum', in the pinned program and in every row, IS THE sha256 OF THE DUMP (.gsa) THAT YtickidnbcdoblaaProg.lean LOADS. Nothing in Lean hashes anything: it is a label: what it is worth is what the hold of that sum in a sandbox is worth. -/
noncomputable def Try.pinned : Pinned := { name := "ytickidnbcdoblaa", sum := "7c985a3edfabb2cd890a297c21489a6717a70c47165ad676e17f1ae817cc3c45", checked := Try.checked }
namespace Rows
def none {H : Type} : Left H := { results := [], args := [] }

/-- 'laws.FnAddBytes': WHATEVER THE INPUT: true; the input reads as it did. -/
def fnAddBytesSpec : ChangeSpec := { name := "fnAddBytes", fn := fun _ => fun
  | [d] => { results := [.lit (.bool true)], args := [d] }
  | _ => none }
def fnAddBytesRow : OpenClaim := { program := "ytickidnbcdoblaa", sum := "7c985a3edfabb2cd890a297c21489a6717a70c47165ad676e17f1ae817cc3c45", func := "loop.example/homeconsole/laws.FnAddBytes", spec := "fnAddBytes", apart := false }
def FnAddBytesSaid : Prop := fnAddBytesRow.holds Try.pinned (OpenSpec.ofChange fnAddBytesSpec)

/-- ITS FALSE NEIGHBOUR: 'it returns false'. Refute it at one input. -/
def fnAddBytesWrong : ChangeSpec := { name := "fnAddBytes", fn := fun _ => fun
  | [d] => { results := [.lit (.bool false)], args := [d] }
  | _ => none }
def FnAddBytesWrongFalsely : Prop := fnAddBytesRow.holds Try.pinned (OpenSpec.ofChange fnAddBytesWrong)

/-- 'laws.FnSubBytes': WHATEVER THE INPUT: true; the input reads as it did. -/
def fnSubBytesSpec : ChangeSpec := { name := "fnSubBytes", fn := fun _ => fun
  | [d] => { results := [.lit (.bool true)], args := [d] }
  | _ => none }
def fnSubBytesRow : OpenClaim := { program := "ytickidnbcdoblaa", sum := "7c985a3edfabb2cd890a297c21489a6717a70c47165ad676e17f1ae817cc3c45", func := "loop.example/homeconsole/laws.FnSubBytes", spec := "fnSubBytes", apart := false }
def FnSubBytesSaid : Prop := fnSubBytesRow.holds Try.pinned (OpenSpec.ofChange fnSubBytesSpec)

/-- ITS FALSE NEIGHBOUR: 'it returns false'. Refute it at one input. -/
def fnSubBytesWrong : ChangeSpec := { name := "fnSubBytes", fn := fun _ => fun
  | [d] => { results := [.lit (.bool false)], args := [d] }
  | _ => none }
def FnSubBytesWrongFalsely : Prop := fnSubBytesRow.holds Try.pinned (OpenSpec.ofChange fnSubBytesWrong)

/-- 'laws.FnSignedByte': WHATEVER THE INPUT: true; the input reads as it did. -/
def fnSignedByteSpec : ChangeSpec := { name := "fnSignedByte", fn := fun _ => fun
  | [d] => { results := [.lit (.bool true)], args := [d] }
  | _ => none }
def fnSignedByteRow : OpenClaim := { program := "ytickidnbcdoblaa", sum := "7c985a3edfabb2cd890a297c21489a6717a70c47165ad676e17f1ae817cc3c45", func := "loop.example/homeconsole/laws.FnSignedByte", spec := "fnSignedByte", apart := false }
def FnSignedByteSaid : Prop := fnSignedByteRow.holds Try.pinned (OpenSpec.ofChange fnSignedByteSpec)

/-- ITS FALSE NEIGHBOUR: 'it returns false'. Refute it at one input. -/
def fnSignedByteWrong : ChangeSpec := { name := "fnSignedByte", fn := fun _ => fun
  | [d] => { results := [.lit (.bool false)], args := [d] }
  | _ => none }
def FnSignedByteWrongFalsely : Prop := fnSignedByteRow.holds Try.pinned (OpenSpec.ofChange fnSignedByteWrong)

/-- 'laws.FnRotateLeft': WHATEVER THE INPUT: true; the input reads as it did. -/
def fnRotateLeftSpec : ChangeSpec := { name := "fnRotateLeft", fn := fun _ => fun
  | [d] => { results := [.lit (.bool true)], args := [d] }
  | _ => none }
def fnRotateLeftRow : OpenClaim := { program := "ytickidnbcdoblaa", sum := "7c985a3edfabb2cd890a297c21489a6717a70c47165ad676e17f1ae817cc3c45", func := "loop.example/homeconsole/laws.FnRotateLeft", spec := "fnRotateLeft", apart := false }
def FnRotateLeftSaid : Prop := fnRotateLeftRow.holds Try.pinned (OpenSpec.ofChange fnRotateLeftSpec)

/-- ITS FALSE NEIGHBOUR: 'it returns false'. Refute it at one input. -/
def fnRotateLeftWrong : ChangeSpec := { name := "fnRotateLeft", fn := fun _ => fun
  | [d] => { results := [.lit (.bool false)], args := [d] }
  | _ => none }
def FnRotateLeftWrongFalsely : Prop := fnRotateLeftRow.holds Try.pinned (OpenSpec.ofChange fnRotateLeftWrong)

/-- 'laws.FnRotateRight': WHATEVER THE INPUT: true; the input reads as it did. -/
def fnRotateRightSpec : ChangeSpec := { name := "fnRotateRight", fn := fun _ => fun
  | [d] => { results := [.lit (.bool true)], args := [d] }
  | _ => none }
def fnRotateRightRow : OpenClaim := { program := "ytickidnbcdoblaa", sum := "7c985a3edfabb2cd890a297c21489a6717a70c47165ad676e17f1ae817cc3c45", func := "loop.example/homeconsole/laws.FnRotateRight", spec := "fnRotateRight", apart := false }
def FnRotateRightSaid : Prop := fnRotateRightRow.holds Try.pinned (OpenSpec.ofChange fnRotateRightSpec)

/-- ITS FALSE NEIGHBOUR: 'it returns false'. Refute it at one input. -/
def fnRotateRightWrong : ChangeSpec := { name := "fnRotateRight", fn := fun _ => fun
  | [d] => { results := [.lit (.bool false)], args := [d] }
  | _ => none }
def FnRotateRightWrongFalsely : Prop := fnRotateRightRow.holds Try.pinned (OpenSpec.ofChange fnRotateRightWrong)

/-- 'laws.FnCountOnes': WHATEVER THE INPUT: true; the input reads as it did. -/
def fnCountOnesSpec : ChangeSpec := { name := "fnCountOnes", fn := fun _ => fun
  | [d] => { results := [.lit (.bool true)], args := [d] }
  | _ => none }
def fnCountOnesRow : OpenClaim := { program := "ytickidnbcdoblaa", sum := "7c985a3edfabb2cd890a297c21489a6717a70c47165ad676e17f1ae817cc3c45", func := "loop.example/homeconsole/laws.FnCountOnes", spec := "fnCountOnes", apart := false }
def FnCountOnesSaid : Prop := fnCountOnesRow.holds Try.pinned (OpenSpec.ofChange fnCountOnesSpec)

/-- ITS FALSE NEIGHBOUR: 'it returns false'. Refute it at one input. -/
def fnCountOnesWrong : ChangeSpec := { name := "fnCountOnes", fn := fun _ => fun
  | [d] => { results := [.lit (.bool false)], args := [d] }
  | _ => none }
def FnCountOnesWrongFalsely : Prop := fnCountOnesRow.holds Try.pinned (OpenSpec.ofChange fnCountOnesWrong)

/-- 'laws.FnAddChain': WHATEVER THE INPUT: true; the input reads as it did. -/
def fnAddChainSpec : ChangeSpec := { name := "fnAddChain", fn := fun _ => fun
  | [d1, d2] => { results := [.lit (.bool true)], args := [d1, d2] }
  | _ => none }
def fnAddChainRow : OpenClaim := { program := "ytickidnbcdoblaa", sum := "7c985a3edfabb2cd890a297c21489a6717a70c47165ad676e17f1ae817cc3c45", func := "loop.example/homeconsole/laws.FnAddChain", spec := "fnAddChain", apart := false }
def FnAddChainSaid : Prop := fnAddChainRow.holds Try.pinned (OpenSpec.ofChange fnAddChainSpec)

/-- ITS FALSE NEIGHBOUR: 'it returns false'. Refute it at one input. -/
def fnAddChainWrong : ChangeSpec := { name := "fnAddChain", fn := fun _ => fun
  | [d1, d2] => { results := [.lit (.bool false)], args := [d1, d2] }
  | _ => none }
def FnAddChainWrongFalsely : Prop := fnAddChainRow.holds Try.pinned (OpenSpec.ofChange fnAddChainWrong)

/-- 'laws.FnOnesXor': WHATEVER THE INPUT: true; the input reads as it did. -/
def fnOnesXorSpec : ChangeSpec := { name := "fnOnesXor", fn := fun _ => fun
  | [d] => { results := [.lit (.bool true)], args := [d] }
  | _ => none }
def fnOnesXorRow : OpenClaim := { program := "ytickidnbcdoblaa", sum := "7c985a3edfabb2cd890a297c21489a6717a70c47165ad676e17f1ae817cc3c45", func := "loop.example/homeconsole/laws.FnOnesXor", spec := "fnOnesXor", apart := false }
def FnOnesXorSaid : Prop := fnOnesXorRow.holds Try.pinned (OpenSpec.ofChange fnOnesXorSpec)

/-- ITS FALSE NEIGHBOUR: 'it returns false'. Refute it at one input. -/
def fnOnesXorWrong : ChangeSpec := { name := "fnOnesXor", fn := fun _ => fun
  | [d] => { results := [.lit (.bool false)], args := [d] }
  | _ => none }
def FnOnesXorWrongFalsely : Prop := fnOnesXorRow.holds Try.pinned (OpenSpec.ofChange fnOnesXorWrong)

/-- 'laws.FnExactAddBytes': WHATEVER THE INPUT: true; the input reads as it did. -/
def fnExactAddBytesSpec : ChangeSpec := { name := "fnExactAddBytes", fn := fun _ => fun
  | [d1, d2, d3] => { results := [.lit (.bool true)], args := [d1, d2, d3] }
  | _ => none }
def fnExactAddBytesRow : OpenClaim := { program := "ytickidnbcdoblaa", sum := "7c985a3edfabb2cd890a297c21489a6717a70c47165ad676e17f1ae817cc3c45", func := "loop.example/homeconsole/laws.FnExactAddBytes", spec := "fnExactAddBytes", apart := false }
def FnExactAddBytesSaid : Prop := fnExactAddBytesRow.holds Try.pinned (OpenSpec.ofChange fnExactAddBytesSpec)

/-- ITS FALSE NEIGHBOUR: 'it returns false'. Refute it at one input. -/
def fnExactAddBytesWrong : ChangeSpec := { name := "fnExactAddBytes", fn := fun _ => fun
  | [d1, d2, d3] => { results := [.lit (.bool false)], args := [d1, d2, d3] }
  | _ => none }
def FnExactAddBytesWrongFalsely : Prop := fnExactAddBytesRow.holds Try.pinned (OpenSpec.ofChange fnExactAddBytesWrong)

/-- 'laws.FnExactSubBytes': WHATEVER THE INPUT: true; the input reads as it did. -/
def fnExactSubBytesSpec : ChangeSpec := { name := "fnExactSubBytes", fn := fun _ => fun
  | [d1, d2, d3] => { results := [.lit (.bool true)], args := [d1, d2, d3] }
  | _ => none }
def fnExactSubBytesRow : OpenClaim := { program := "ytickidnbcdoblaa", sum := "7c985a3edfabb2cd890a297c21489a6717a70c47165ad676e17f1ae817cc3c45", func := "loop.example/homeconsole/laws.FnExactSubBytes", spec := "fnExactSubBytes", apart := false }
def FnExactSubBytesSaid : Prop := fnExactSubBytesRow.holds Try.pinned (OpenSpec.ofChange fnExactSubBytesSpec)

/-- ITS FALSE NEIGHBOUR: 'it returns false'. Refute it at one input. -/
def fnExactSubBytesWrong : ChangeSpec := { name := "fnExactSubBytes", fn := fun _ => fun
  | [d1, d2, d3] => { results := [.lit (.bool false)], args := [d1, d2, d3] }
  | _ => none }
def FnExactSubBytesWrongFalsely : Prop := fnExactSubBytesRow.holds Try.pinned (OpenSpec.ofChange fnExactSubBytesWrong)

/-- 'laws.FnExactSignedByte': WHATEVER THE INPUT: true; the input reads as it did. -/
def fnExactSignedByteSpec : ChangeSpec := { name := "fnExactSignedByte", fn := fun _ => fun
  | [d] => { results := [.lit (.bool true)], args := [d] }
  | _ => none }
def fnExactSignedByteRow : OpenClaim := { program := "ytickidnbcdoblaa", sum := "7c985a3edfabb2cd890a297c21489a6717a70c47165ad676e17f1ae817cc3c45", func := "loop.example/homeconsole/laws.FnExactSignedByte", spec := "fnExactSignedByte", apart := false }
def FnExactSignedByteSaid : Prop := fnExactSignedByteRow.holds Try.pinned (OpenSpec.ofChange fnExactSignedByteSpec)

/-- ITS FALSE NEIGHBOUR: 'it returns false'. Refute it at one input. -/
def fnExactSignedByteWrong : ChangeSpec := { name := "fnExactSignedByte", fn := fun _ => fun
  | [d] => { results := [.lit (.bool false)], args := [d] }
  | _ => none }
def FnExactSignedByteWrongFalsely : Prop := fnExactSignedByteRow.holds Try.pinned (OpenSpec.ofChange fnExactSignedByteWrong)

/-- 'laws.FnExactRotateLeft': WHATEVER THE INPUT: true; the input reads as it did. -/
def fnExactRotateLeftSpec : ChangeSpec := { name := "fnExactRotateLeft", fn := fun _ => fun
  | [d1, d2] => { results := [.lit (.bool true)], args := [d1, d2] }
  | _ => none }
def fnExactRotateLeftRow : OpenClaim := { program := "ytickidnbcdoblaa", sum := "7c985a3edfabb2cd890a297c21489a6717a70c47165ad676e17f1ae817cc3c45", func := "loop.example/homeconsole/laws.FnExactRotateLeft", spec := "fnExactRotateLeft", apart := false }
def FnExactRotateLeftSaid : Prop := fnExactRotateLeftRow.holds Try.pinned (OpenSpec.ofChange fnExactRotateLeftSpec)

/-- ITS FALSE NEIGHBOUR: 'it returns false'. Refute it at one input. -/
def fnExactRotateLeftWrong : ChangeSpec := { name := "fnExactRotateLeft", fn := fun _ => fun
  | [d1, d2] => { results := [.lit (.bool false)], args := [d1, d2] }
  | _ => none }
def FnExactRotateLeftWrongFalsely : Prop := fnExactRotateLeftRow.holds Try.pinned (OpenSpec.ofChange fnExactRotateLeftWrong)

/-- 'laws.FnExactRotateRight': WHATEVER THE INPUT: true; the input reads as it did. -/
def fnExactRotateRightSpec : ChangeSpec := { name := "fnExactRotateRight", fn := fun _ => fun
  | [d1, d2] => { results := [.lit (.bool true)], args := [d1, d2] }
  | _ => none }
def fnExactRotateRightRow : OpenClaim := { program := "ytickidnbcdoblaa", sum := "7c985a3edfabb2cd890a297c21489a6717a70c47165ad676e17f1ae817cc3c45", func := "loop.example/homeconsole/laws.FnExactRotateRight", spec := "fnExactRotateRight", apart := false }
def FnExactRotateRightSaid : Prop := fnExactRotateRightRow.holds Try.pinned (OpenSpec.ofChange fnExactRotateRightSpec)

/-- ITS FALSE NEIGHBOUR: 'it returns false'. Refute it at one input. -/
def fnExactRotateRightWrong : ChangeSpec := { name := "fnExactRotateRight", fn := fun _ => fun
  | [d1, d2] => { results := [.lit (.bool false)], args := [d1, d2] }
  | _ => none }
def FnExactRotateRightWrongFalsely : Prop := fnExactRotateRightRow.holds Try.pinned (OpenSpec.ofChange fnExactRotateRightWrong)

/-- 'laws.FnExactCountOnes': WHATEVER THE INPUT: true; the input reads as it did. -/
def fnExactCountOnesSpec : ChangeSpec := { name := "fnExactCountOnes", fn := fun _ => fun
  | [d] => { results := [.lit (.bool true)], args := [d] }
  | _ => none }
def fnExactCountOnesRow : OpenClaim := { program := "ytickidnbcdoblaa", sum := "7c985a3edfabb2cd890a297c21489a6717a70c47165ad676e17f1ae817cc3c45", func := "loop.example/homeconsole/laws.FnExactCountOnes", spec := "fnExactCountOnes", apart := false }
def FnExactCountOnesSaid : Prop := fnExactCountOnesRow.holds Try.pinned (OpenSpec.ofChange fnExactCountOnesSpec)

/-- ITS FALSE NEIGHBOUR: 'it returns false'. Refute it at one input. -/
def fnExactCountOnesWrong : ChangeSpec := { name := "fnExactCountOnes", fn := fun _ => fun
  | [d] => { results := [.lit (.bool false)], args := [d] }
  | _ => none }
def FnExactCountOnesWrongFalsely : Prop := fnExactCountOnesRow.holds Try.pinned (OpenSpec.ofChange fnExactCountOnesWrong)

/- THE SECOND FORM. 'bulk': how many values and letters a reading holds, each counted each time it is reached (what is shared counts as often as it is met; a slice's spare places count too). A statement '..UptoSaid' is the law's where the arguments, and the package variables that the reading takes, are together of bulk at most 1048576: NARROWER than '..Said'. Prove '..Said' where nothing that the law and all that it calls make is longer than what came in: it says more and counts as full. Else prove '..UptoSaid'. A law counts once. -/
mutual
def uptoBulk {H : Type} : DataW H → Nat
  | .lit (.string bytes) => bytes.length + 1
  | .lit _ => 1
  | .nil => 1
  | .ptr d => uptoBulk d + 1
  | .slice elems spare => uptoBulkAll elems + uptoBulkAll spare + 1
  | .agg parts => uptoBulkAll parts + 1
  | .iface _ d => uptoBulk d + 1
  | .map entries => uptoBulkEntries entries + 1
  | .held _ => 1
def uptoBulkAll {H : Type} : List (DataW H) → Nat
  | [] => 0
  | d :: r => uptoBulk d + uptoBulkAll r
def uptoBulkEntries {H : Type} : List (Lit × DataW H) → Nat
  | [] => 0
  | x :: r => uptoBulkEntry x + uptoBulkEntries r
def uptoBulkEntry {H : Type} : Lit × DataW H → Nat
  | (.string bytes, d) => bytes.length + uptoBulk d + 1
  | (_, d) => uptoBulk d + 1
 end
def uptoSmall : (H : Type) → List (DataW H) → Bool := fun _ ds => decide (uptoBulkAll ds ≤ 1048576)
def OpenSpec.upto (s : _root_.Go.ChangeSpec) : _root_.Go.OpenSpec := { _root_.Go.OpenSpec.ofChange s with cond := some uptoSmall }

/-- 'laws.FnAddBytes', WHERE WHAT IT READS IS OF BULK AT MOST 1048576: true; the input reads as it did. -/
def fnAddBytesUptoRow : OpenClaim := { program := "ytickidnbcdoblaa", sum := "7c985a3edfabb2cd890a297c21489a6717a70c47165ad676e17f1ae817cc3c45", func := "loop.example/homeconsole/laws.FnAddBytes", spec := "fnAddBytes", apart := false, narrowed := true }
def FnAddBytesUptoSaid : Prop := fnAddBytesUptoRow.holds Try.pinned (OpenSpec.upto fnAddBytesSpec)

/-- 'laws.FnSubBytes', WHERE WHAT IT READS IS OF BULK AT MOST 1048576: true; the input reads as it did. -/
def fnSubBytesUptoRow : OpenClaim := { program := "ytickidnbcdoblaa", sum := "7c985a3edfabb2cd890a297c21489a6717a70c47165ad676e17f1ae817cc3c45", func := "loop.example/homeconsole/laws.FnSubBytes", spec := "fnSubBytes", apart := false, narrowed := true }
def FnSubBytesUptoSaid : Prop := fnSubBytesUptoRow.holds Try.pinned (OpenSpec.upto fnSubBytesSpec)

/-- 'laws.FnSignedByte', WHERE WHAT IT READS IS OF BULK AT MOST 1048576: true; the input reads as it did. -/
def fnSignedByteUptoRow : OpenClaim := { program := "ytickidnbcdoblaa", sum := "7c985a3edfabb2cd890a297c21489a6717a70c47165ad676e17f1ae817cc3c45", func := "loop.example/homeconsole/laws.FnSignedByte", spec := "fnSignedByte", apart := false, narrowed := true }
def FnSignedByteUptoSaid : Prop := fnSignedByteUptoRow.holds Try.pinned (OpenSpec.upto fnSignedByteSpec)

/-- 'laws.FnRotateLeft', WHERE WHAT IT READS IS OF BULK AT MOST 1048576: true; the input reads as it did. -/
def fnRotateLeftUptoRow : OpenClaim := { program := "ytickidnbcdoblaa", sum := "7c985a3edfabb2cd890a297c21489a6717a70c47165ad676e17f1ae817cc3c45", func := "loop.example/homeconsole/laws.FnRotateLeft", spec := "fnRotateLeft", apart := false, narrowed := true }
def FnRotateLeftUptoSaid : Prop := fnRotateLeftUptoRow.holds Try.pinned (OpenSpec.upto fnRotateLeftSpec)

/-- 'laws.FnRotateRight', WHERE WHAT IT READS IS OF BULK AT MOST 1048576: true; the input reads as it did. -/
def fnRotateRightUptoRow : OpenClaim := { program := "ytickidnbcdoblaa", sum := "7c985a3edfabb2cd890a297c21489a6717a70c47165ad676e17f1ae817cc3c45", func := "loop.example/homeconsole/laws.FnRotateRight", spec := "fnRotateRight", apart := false, narrowed := true }
def FnRotateRightUptoSaid : Prop := fnRotateRightUptoRow.holds Try.pinned (OpenSpec.upto fnRotateRightSpec)

/-- 'laws.FnCountOnes', WHERE WHAT IT READS IS OF BULK AT MOST 1048576: true; the input reads as it did. -/
def fnCountOnesUptoRow : OpenClaim := { program := "ytickidnbcdoblaa", sum := "7c985a3edfabb2cd890a297c21489a6717a70c47165ad676e17f1ae817cc3c45", func := "loop.example/homeconsole/laws.FnCountOnes", spec := "fnCountOnes", apart := false, narrowed := true }
def FnCountOnesUptoSaid : Prop := fnCountOnesUptoRow.holds Try.pinned (OpenSpec.upto fnCountOnesSpec)

/-- 'laws.FnAddChain', WHERE WHAT IT READS IS OF BULK AT MOST 1048576: true; the input reads as it did. -/
def fnAddChainUptoRow : OpenClaim := { program := "ytickidnbcdoblaa", sum := "7c985a3edfabb2cd890a297c21489a6717a70c47165ad676e17f1ae817cc3c45", func := "loop.example/homeconsole/laws.FnAddChain", spec := "fnAddChain", apart := false, narrowed := true }
def FnAddChainUptoSaid : Prop := fnAddChainUptoRow.holds Try.pinned (OpenSpec.upto fnAddChainSpec)

/-- 'laws.FnOnesXor', WHERE WHAT IT READS IS OF BULK AT MOST 1048576: true; the input reads as it did. -/
def fnOnesXorUptoRow : OpenClaim := { program := "ytickidnbcdoblaa", sum := "7c985a3edfabb2cd890a297c21489a6717a70c47165ad676e17f1ae817cc3c45", func := "loop.example/homeconsole/laws.FnOnesXor", spec := "fnOnesXor", apart := false, narrowed := true }
def FnOnesXorUptoSaid : Prop := fnOnesXorUptoRow.holds Try.pinned (OpenSpec.upto fnOnesXorSpec)

/-- 'laws.FnExactAddBytes', WHERE WHAT IT READS IS OF BULK AT MOST 1048576: true; the input reads as it did. -/
def fnExactAddBytesUptoRow : OpenClaim := { program := "ytickidnbcdoblaa", sum := "7c985a3edfabb2cd890a297c21489a6717a70c47165ad676e17f1ae817cc3c45", func := "loop.example/homeconsole/laws.FnExactAddBytes", spec := "fnExactAddBytes", apart := false, narrowed := true }
def FnExactAddBytesUptoSaid : Prop := fnExactAddBytesUptoRow.holds Try.pinned (OpenSpec.upto fnExactAddBytesSpec)

/-- 'laws.FnExactSubBytes', WHERE WHAT IT READS IS OF BULK AT MOST 1048576: true; the input reads as it did. -/
def fnExactSubBytesUptoRow : OpenClaim := { program := "ytickidnbcdoblaa", sum := "7c985a3edfabb2cd890a297c21489a6717a70c47165ad676e17f1ae817cc3c45", func := "loop.example/homeconsole/laws.FnExactSubBytes", spec := "fnExactSubBytes", apart := false, narrowed := true }
def FnExactSubBytesUptoSaid : Prop := fnExactSubBytesUptoRow.holds Try.pinned (OpenSpec.upto fnExactSubBytesSpec)

/-- 'laws.FnExactSignedByte', WHERE WHAT IT READS IS OF BULK AT MOST 1048576: true; the input reads as it did. -/
def fnExactSignedByteUptoRow : OpenClaim := { program := "ytickidnbcdoblaa", sum := "7c985a3edfabb2cd890a297c21489a6717a70c47165ad676e17f1ae817cc3c45", func := "loop.example/homeconsole/laws.FnExactSignedByte", spec := "fnExactSignedByte", apart := false, narrowed := true }
def FnExactSignedByteUptoSaid : Prop := fnExactSignedByteUptoRow.holds Try.pinned (OpenSpec.upto fnExactSignedByteSpec)

/-- 'laws.FnExactRotateLeft', WHERE WHAT IT READS IS OF BULK AT MOST 1048576: true; the input reads as it did. -/
def fnExactRotateLeftUptoRow : OpenClaim := { program := "ytickidnbcdoblaa", sum := "7c985a3edfabb2cd890a297c21489a6717a70c47165ad676e17f1ae817cc3c45", func := "loop.example/homeconsole/laws.FnExactRotateLeft", spec := "fnExactRotateLeft", apart := false, narrowed := true }
def FnExactRotateLeftUptoSaid : Prop := fnExactRotateLeftUptoRow.holds Try.pinned (OpenSpec.upto fnExactRotateLeftSpec)

/-- 'laws.FnExactRotateRight', WHERE WHAT IT READS IS OF BULK AT MOST 1048576: true; the input reads as it did. -/
def fnExactRotateRightUptoRow : OpenClaim := { program := "ytickidnbcdoblaa", sum := "7c985a3edfabb2cd890a297c21489a6717a70c47165ad676e17f1ae817cc3c45", func := "loop.example/homeconsole/laws.FnExactRotateRight", spec := "fnExactRotateRight", apart := false, narrowed := true }
def FnExactRotateRightUptoSaid : Prop := fnExactRotateRightUptoRow.holds Try.pinned (OpenSpec.upto fnExactRotateRightSpec)

/-- 'laws.FnExactCountOnes', WHERE WHAT IT READS IS OF BULK AT MOST 1048576: true; the input reads as it did. -/
def fnExactCountOnesUptoRow : OpenClaim := { program := "ytickidnbcdoblaa", sum := "7c985a3edfabb2cd890a297c21489a6717a70c47165ad676e17f1ae817cc3c45", func := "loop.example/homeconsole/laws.FnExactCountOnes", spec := "fnExactCountOnes", apart := false, narrowed := true }
def FnExactCountOnesUptoSaid : Prop := fnExactCountOnesUptoRow.holds Try.pinned (OpenSpec.upto fnExactCountOnesSpec)

end Rows
end Go.Proofs.Ytickidnbcdoblaa
