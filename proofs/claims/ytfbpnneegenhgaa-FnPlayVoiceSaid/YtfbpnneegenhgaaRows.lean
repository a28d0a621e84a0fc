/-
  No cell of these rows narrows 'for every input' (looked for: loops, veiled, ifaces, maps, wideKeys, modest, calm, conditions, laid).
  DERIVED. THE GIVEN ROWS OF THIS SEAT. 11 by the template 'for every input the law returns true; each argument reads behind the call as it read before'; 0 by the template 'total and deterministic' (their statements: YtfbpnneegenhgaaTotals.lean).
  GIVEN WITH THE SEED: the statements are not yours to turn. If you find one false, say at which input.
  Laid BY PROGRAM, IN A SANDBOX (cutbox-rows.mjs): the forced cells as the released guide's own fill.sh prints them over the translation 6fef1a06ab28e286… (all of the seat's roots in one cut). By AI agents, Wed Nov 11 2026. No macro, syntax, notation, axiom, sorry.
-/
import Derived.Test.YtfbpnneegenhgaaChecked
import GoSem.Claim
import GoSem.ClaimJoined
import GoSem.ClaimMapViews
import Derived.JoinedTies
import Derived.KernelRfl
namespace Go.Proofs.Ytfbpnneegenhgaa
/- THE CELL 'sum', in the pinned program and in every row, IS THE sha256 OF THE DUMP (.gsa) THAT YtfbpnneegenhgaaProg.lean LOADS. Nothing in Lean hashes anything: it is a label: what it is worth is what the hold of that sum in a sandbox is worth. -/
noncomputable def Try.pinned : Pinned := { name := "ytfbpnneegenhgaa", sum := "6fef1a06ab28e286fff81db7743ab7d2cc606d4beff756988fc50252e9e36f9d", checked := Try.checked }
namespace Rows
def none {H : Type} : Left H := { results := [], args := [] }

/-- 'laws.FnVoiceValid': WHATEVER THE INPUT: true; the input reads as it did. -/
def fnVoiceValidSpec : ChangeSpec := { name := "fnVoiceValid", fn := fun _ => fun
  | [d] => { results := [.lit (.bool true)], args := [d] }
  | _ => none }
def fnVoiceValidRow : OpenClaim := { program := "ytfbpnneegenhgaa", sum := "6fef1a06ab28e286fff81db7743ab7d2cc606d4beff756988fc50252e9e36f9d", func := "loop.example/homeconsole/laws.FnVoiceValid", spec := "fnVoiceValid", apart := false }
def FnVoiceValidSaid : Prop := fnVoiceValidRow.holds Try.pinned (OpenSpec.ofChange fnVoiceValidSpec)

/-- ITS FALSE NEIGHBOUR: 'it returns false'. Refute it at one input. -/
def fnVoiceValidWrong : ChangeSpec := { name := "fnVoiceValid", fn := fun _ => fun
  | [d] => { results := [.lit (.bool false)], args := [d] }
  | _ => none }
def FnVoiceValidWrongFalsely : Prop := fnVoiceValidRow.holds Try.pinned (OpenSpec.ofChange fnVoiceValidWrong)

/-- 'laws.FnPlayVoice': WHATEVER THE INPUT: true; the input reads as it did. -/
def fnPlayVoiceSpec : ChangeSpec := { name := "fnPlayVoice", fn := fun _ => fun
  | [d] => { results := [.lit (.bool true)], args := [d] }
  | _ => none }
def fnPlayVoiceRow : OpenClaim := { program := "ytfbpnneegenhgaa", sum := "6fef1a06ab28e286fff81db7743ab7d2cc606d4beff756988fc50252e9e36f9d", func := "loop.example/homeconsole/laws.FnPlayVoice", spec := "fnPlayVoice", apart := false }
def FnPlayVoiceSaid : Prop := fnPlayVoiceRow.holds Try.pinned (OpenSpec.ofChange fnPlayVoiceSpec)

/-- ITS FALSE NEIGHBOUR: 'it returns false'. Refute it at one input. -/
def fnPlayVoiceWrong : ChangeSpec := { name := "fnPlayVoice", fn := fun _ => fun
  | [d] => { results := [.lit (.bool false)], args := [d] }
  | _ => none }
def FnPlayVoiceWrongFalsely : Prop := fnPlayVoiceRow.holds Try.pinned (OpenSpec.ofChange fnPlayVoiceWrong)

/-- 'laws.FnSkipVoice': WHATEVER THE INPUT: true; the input reads as it did. -/
def fnSkipVoiceSpec : ChangeSpec := { name := "fnSkipVoice", fn := fun _ => fun
  | [d] => { results := [.lit (.bool true)], args := [d] }
  | _ => none }
def fnSkipVoiceRow : OpenClaim := { program := "ytfbpnneegenhgaa", sum := "6fef1a06ab28e286fff81db7743ab7d2cc606d4beff756988fc50252e9e36f9d", func := "loop.example/homeconsole/laws.FnSkipVoice", spec := "fnSkipVoice", apart := false }
def FnSkipVoiceSaid : Prop := fnSkipVoiceRow.holds Try.pinned (OpenSpec.ofChange fnSkipVoiceSpec)

/-- ITS FALSE NEIGHBOUR: 'it returns false'. Refute it at one input. -/
def fnSkipVoiceWrong : ChangeSpec := { name := "fnSkipVoice", fn := fun _ => fun
  | [d] => { results := [.lit (.bool false)], args := [d] }
  | _ => none }
def FnSkipVoiceWrongFalsely : Prop := fnSkipVoiceRow.holds Try.pinned (OpenSpec.ofChange fnSkipVoiceWrong)

/-- 'laws.FnMixVoices': WHATEVER THE INPUT: true; the input reads as it did. -/
def fnMixVoicesSpec : ChangeSpec := { name := "fnMixVoices", fn := fun _ => fun
  | [d] => { results := [.lit (.bool true)], args := [d] }
  | _ => none }
def fnMixVoicesRow : OpenClaim := { program := "ytfbpnneegenhgaa", sum := "6fef1a06ab28e286fff81db7743ab7d2cc606d4beff756988fc50252e9e36f9d", func := "loop.example/homeconsole/laws.FnMixVoices", spec := "fnMixVoices", apart := false }
def FnMixVoicesSaid : Prop := fnMixVoicesRow.holds Try.pinned (OpenSpec.ofChange fnMixVoicesSpec)

/-- ITS FALSE NEIGHBOUR: 'it returns false'. Refute it at one input. -/
def fnMixVoicesWrong : ChangeSpec := { name := "fnMixVoices", fn := fun _ => fun
  | [d] => { results := [.lit (.bool false)], args := [d] }
  | _ => none }
def FnMixVoicesWrongFalsely : Prop := fnMixVoicesRow.holds Try.pinned (OpenSpec.ofChange fnMixVoicesWrong)

/-- 'laws.FnFadeVolume': WHATEVER THE INPUT: true; the input reads as it did. -/
def fnFadeVolumeSpec : ChangeSpec := { name := "fnFadeVolume", fn := fun _ => fun
  | [d] => { results := [.lit (.bool true)], args := [d] }
  | _ => none }
def fnFadeVolumeRow : OpenClaim := { program := "ytfbpnneegenhgaa", sum := "6fef1a06ab28e286fff81db7743ab7d2cc606d4beff756988fc50252e9e36f9d", func := "loop.example/homeconsole/laws.FnFadeVolume", spec := "fnFadeVolume", apart := false }
def FnFadeVolumeSaid : Prop := fnFadeVolumeRow.holds Try.pinned (OpenSpec.ofChange fnFadeVolumeSpec)

/-- ITS FALSE NEIGHBOUR: 'it returns false'. Refute it at one input. -/
def fnFadeVolumeWrong : ChangeSpec := { name := "fnFadeVolume", fn := fun _ => fun
  | [d] => { results := [.lit (.bool false)], args := [d] }
  | _ => none }
def FnFadeVolumeWrongFalsely : Prop := fnFadeVolumeRow.holds Try.pinned (OpenSpec.ofChange fnFadeVolumeWrong)

/-- 'laws.FnVoiceShare': WHATEVER THE INPUT: true; the input reads as it did. -/
def fnVoiceShareSpec : ChangeSpec := { name := "fnVoiceShare", fn := fun _ => fun
  | [d] => { results := [.lit (.bool true)], args := [d] }
  | _ => none }
def fnVoiceShareRow : OpenClaim := { program := "ytfbpnneegenhgaa", sum := "6fef1a06ab28e286fff81db7743ab7d2cc606d4beff756988fc50252e9e36f9d", func := "loop.example/homeconsole/laws.FnVoiceShare", spec := "fnVoiceShare", apart := false }
def FnVoiceShareSaid : Prop := fnVoiceShareRow.holds Try.pinned (OpenSpec.ofChange fnVoiceShareSpec)

/-- ITS FALSE NEIGHBOUR: 'it returns false'. Refute it at one input. -/
def fnVoiceShareWrong : ChangeSpec := { name := "fnVoiceShare", fn := fun _ => fun
  | [d] => { results := [.lit (.bool false)], args := [d] }
  | _ => none }
def FnVoiceShareWrongFalsely : Prop := fnVoiceShareRow.holds Try.pinned (OpenSpec.ofChange fnVoiceShareWrong)

/-- 'laws.FnExactVoiceValid': WHATEVER THE INPUT: true; the input reads as it did. -/
def fnExactVoiceValidSpec : ChangeSpec := { name := "fnExactVoiceValid", fn := fun _ => fun
  | [d] => { results := [.lit (.bool true)], args := [d] }
  | _ => none }
def fnExactVoiceValidRow : OpenClaim := { program := "ytfbpnneegenhgaa", sum := "6fef1a06ab28e286fff81db7743ab7d2cc606d4beff756988fc50252e9e36f9d", func := "loop.example/homeconsole/laws.FnExactVoiceValid", spec := "fnExactVoiceValid", apart := false }
def FnExactVoiceValidSaid : Prop := fnExactVoiceValidRow.holds Try.pinned (OpenSpec.ofChange fnExactVoiceValidSpec)

/-- ITS FALSE NEIGHBOUR: 'it returns false'. Refute it at one input. -/
def fnExactVoiceValidWrong : ChangeSpec := { name := "fnExactVoiceValid", fn := fun _ => fun
  | [d] => { results := [.lit (.bool false)], args := [d] }
  | _ => none }
def FnExactVoiceValidWrongFalsely : Prop := fnExactVoiceValidRow.holds Try.pinned (OpenSpec.ofChange fnExactVoiceValidWrong)

/-- 'laws.FnExactPlayVoice': WHATEVER THE INPUT: true; the input reads as it did. -/
def fnExactPlayVoiceSpec : ChangeSpec := { name := "fnExactPlayVoice", fn := fun _ => fun
  | [d1, d2] => { results := [.lit (.bool true)], args := [d1, d2] }
  | _ => none }
def fnExactPlayVoiceRow : OpenClaim := { program := "ytfbpnneegenhgaa", sum := "6fef1a06ab28e286fff81db7743ab7d2cc606d4beff756988fc50252e9e36f9d", func := "loop.example/homeconsole/laws.FnExactPlayVoice", spec := "fnExactPlayVoice", apart := false }
def FnExactPlayVoiceSaid : Prop := fnExactPlayVoiceRow.holds Try.pinned (OpenSpec.ofChange fnExactPlayVoiceSpec)

/-- ITS FALSE NEIGHBOUR: 'it returns false'. Refute it at one input. -/
def fnExactPlayVoiceWrong : ChangeSpec := { name := "fnExactPlayVoice", fn := fun _ => fun
  | [d1, d2] => { results := [.lit (.bool false)], args := [d1, d2] }
  | _ => none }
def FnExactPlayVoiceWrongFalsely : Prop := fnExactPlayVoiceRow.holds Try.pinned (OpenSpec.ofChange fnExactPlayVoiceWrong)

/-- 'laws.FnExactSkipVoice': WHATEVER THE INPUT: true; the input reads as it did. -/
def fnExactSkipVoiceSpec : ChangeSpec := { name := "fnExactSkipVoice", fn := fun _ => fun
  | [d1, d2] => { results := [.lit (.bool true)], args := [d1, d2] }
  | _ => none }
def fnExactSkipVoiceRow : OpenClaim := { program := "ytfbpnneegenhgaa", sum := "6fef1a06ab28e286fff81db7743ab7d2cc606d4beff756988fc50252e9e36f9d", func := "loop.example/homeconsole/laws.FnExactSkipVoice", spec := "fnExactSkipVoice", apart := false }
def FnExactSkipVoiceSaid : Prop := fnExactSkipVoiceRow.holds Try.pinned (OpenSpec.ofChange fnExactSkipVoiceSpec)

/-- ITS FALSE NEIGHBOUR: 'it returns false'. Refute it at one input. -/
def fnExactSkipVoiceWrong : ChangeSpec := { name := "fnExactSkipVoice", fn := fun _ => fun
  | [d1, d2] => { results := [.lit (.bool false)], args := [d1, d2] }
  | _ => none }
def FnExactSkipVoiceWrongFalsely : Prop := fnExactSkipVoiceRow.holds Try.pinned (OpenSpec.ofChange fnExactSkipVoiceWrong)

/-- 'laws.FnExactMixVoices': WHATEVER THE INPUT: true; the input reads as it did. -/
def fnExactMixVoicesSpec : ChangeSpec := { name := "fnExactMixVoices", fn := fun _ => fun
  | [d1, d2] => { results := [.lit (.bool true)], args := [d1, d2] }
  | _ => none }
def fnExactMixVoicesRow : OpenClaim := { program := "ytfbpnneegenhgaa", sum := "6fef1a06ab28e286fff81db7743ab7d2cc606d4beff756988fc50252e9e36f9d", func := "loop.example/homeconsole/laws.FnExactMixVoices", spec := "fnExactMixVoices", apart := false }
def FnExactMixVoicesSaid : Prop := fnExactMixVoicesRow.holds Try.pinned (OpenSpec.ofChange fnExactMixVoicesSpec)

/-- ITS FALSE NEIGHBOUR: 'it returns false'. Refute it at one input. -/
def fnExactMixVoicesWrong : ChangeSpec := { name := "fnExactMixVoices", fn := fun _ => fun
  | [d1, d2] => { results := [.lit (.bool false)], args := [d1, d2] }
  | _ => none }
def FnExactMixVoicesWrongFalsely : Prop := fnExactMixVoicesRow.holds Try.pinned (OpenSpec.ofChange fnExactMixVoicesWrong)

/-- 'laws.FnExactFadeVolume': WHATEVER THE INPUT: true; the input reads as it did. -/
def fnExactFadeVolumeSpec : ChangeSpec := { name := "fnExactFadeVolume", fn := fun _ => fun
  | [d1, d2, d3] => { results := [.lit (.bool true)], args := [d1, d2, d3] }
  | _ => none }
def fnExactFadeVolumeRow : OpenClaim := { program := "ytfbpnneegenhgaa", sum := "6fef1a06ab28e286fff81db7743ab7d2cc606d4beff756988fc50252e9e36f9d", func := "loop.example/homeconsole/laws.FnExactFadeVolume", spec := "fnExactFadeVolume", apart := false }
def FnExactFadeVolumeSaid : Prop := fnExactFadeVolumeRow.holds Try.pinned (OpenSpec.ofChange fnExactFadeVolumeSpec)

/-- ITS FALSE NEIGHBOUR: 'it returns false'. Refute it at one input. -/
def fnExactFadeVolumeWrong : ChangeSpec := { name := "fnExactFadeVolume", fn := fun _ => fun
  | [d1, d2, d3] => { results := [.lit (.bool false)], args := [d1, d2, d3] }
  | _ => none }
def FnExactFadeVolumeWrongFalsely : Prop := fnExactFadeVolumeRow.holds Try.pinned (OpenSpec.ofChange fnExactFadeVolumeWrong)

/- THE SECOND FORM. 'bulk': how many values and letters a reading holds, each counted each time it is reached (what is shared counts as often as it is met; a slice's spare places count too). A statement '..UptoSaid' is the law's where the arguments, and the package variables that the reading takes, are together of bulk at most 1048576: NARROWER than '..Said'. Prove '..Said' where nothing that the law and all that it calls make is longer than what came in: it says more and counts as full. Else prove '..UptoSaid'. A law counts once. -/
mutual
def uptoBulk {H : Type} : DataW H → Nat
  | .lit (.string bytes) => bytes.length + 1
  | .lit _ => 1
  | .nil => 1
  | .ptr d => uptoBulk d + 1
  | .slice elems spare => uptoBulkAll elems + uptoBulkAll spare + 1
  | .agg parts => uptoBulkAll parts + 1
  | .iface _ d => uptoBulk d + 1
  | .map entries => uptoBulkEntries entries + 1
  | .held _ => 1
def uptoBulkAll {H : Type} : List (DataW H) → Nat
  | [] => 0
  | d :: r => uptoBulk d + uptoBulkAll r
def uptoBulkEntries {H : Type} : List (Lit × DataW H) → Nat
  | [] => 0
  | x :: r => uptoBulkEntry x + uptoBulkEntries r
def uptoBulkEntry {H : Type} : Lit × DataW H → Nat
  | (.string bytes, d) => bytes.length + uptoBulk d + 1
  | (_, d) => uptoBulk d + 1
 end
def uptoSmall : (H : Type) → List (DataW H) → Bool := fun _ ds => decide (uptoBulkAll ds ≤ 1048576)
def OpenSpec.upto (s : _root_.Go.ChangeSpec) : _root_.Go.OpenSpec := { _root_.Go.OpenSpec.ofChange s with cond := some uptoSmall }

/-- 'laws.FnVoiceValid', WHERE WHAT IT READS IS OF BULK AT MOST 1048576: true; the input reads as it did. -/
def fnVoiceValidUptoRow : OpenClaim := { program := "ytfbpnneegenhgaa", sum := "6fef1a06ab28e286fff81db7743ab7d2cc606d4beff756988fc50252e9e36f9d", func := "loop.example/homeconsole/laws.FnVoiceValid", spec := "fnVoiceValid", apart := false, narrowed := true }
def FnVoiceValidUptoSaid : Prop := fnVoiceValidUptoRow.holds Try.pinned (OpenSpec.upto fnVoiceValidSpec)

/-- 'laws.FnPlayVoice', WHERE WHAT IT READS IS OF BULK AT MOST 1048576: true; the input reads as it did. -/
def fnPlayVoiceUptoRow : OpenClaim := { program := "ytfbpnneegenhgaa", sum := "6fef1a06ab28e286fff81db7743ab7d2cc606d4beff756988fc50252e9e36f9d", func := "loop.example/homeconsole/laws.FnPlayVoice", spec := "fnPlayVoice", apart := false, narrowed := true }
def FnPlayVoiceUptoSaid : Prop := fnPlayVoiceUptoRow.holds Try.pinned (OpenSpec.upto fnPlayVoiceSpec)

/-- 'laws.FnSkipVoice', WHERE WHAT IT READS IS OF BULK AT MOST 1048576: true; the input reads as it did. -/
def fnSkipVoiceUptoRow : OpenClaim := { program := "ytfbpnneegenhgaa", sum := "6fef1a06ab28e286fff81db7743ab7d2cc606d4beff756988fc50252e9e36f9d", func := "loop.example/homeconsole/laws.FnSkipVoice", spec := "fnSkipVoice", apart := false, narrowed := true }
def FnSkipVoiceUptoSaid : Prop := fnSkipVoiceUptoRow.holds Try.pinned (OpenSpec.upto fnSkipVoiceSpec)

/-- 'laws.FnMixVoices', WHERE WHAT IT READS IS OF BULK AT MOST 1048576: true; the input reads as it did. -/
def fnMixVoicesUptoRow : OpenClaim := { program := "ytfbpnneegenhgaa", sum := "6fef1a06ab28e286fff81db7743ab7d2cc606d4beff756988fc50252e9e36f9d", func := "loop.example/homeconsole/laws.FnMixVoices", spec := "fnMixVoices", apart := false, narrowed := true }
def FnMixVoicesUptoSaid : Prop := fnMixVoicesUptoRow.holds Try.pinned (OpenSpec.upto fnMixVoicesSpec)

/-- 'laws.FnFadeVolume', WHERE WHAT IT READS IS OF BULK AT MOST 1048576: true; the input reads as it did. -/
def fnFadeVolumeUptoRow : OpenClaim := { program := "ytfbpnneegenhgaa", sum := "6fef1a06ab28e286fff81db7743ab7d2cc606d4beff756988fc50252e9e36f9d", func := "loop.example/homeconsole/laws.FnFadeVolume", spec := "fnFadeVolume", apart := false, narrowed := true }
def FnFadeVolumeUptoSaid : Prop := fnFadeVolumeUptoRow.holds Try.pinned (OpenSpec.upto fnFadeVolumeSpec)

/-- 'laws.FnVoiceShare', WHERE WHAT IT READS IS OF BULK AT MOST 1048576: true; the input reads as it did. -/
def fnVoiceShareUptoRow : OpenClaim := { program := "ytfbpnneegenhgaa", sum := "6fef1a06ab28e286fff81db7743ab7d2cc606d4beff756988fc50252e9e36f9d", func := "loop.example/homeconsole/laws.FnVoiceShare", spec := "fnVoiceShare", apart := false, narrowed := true }
def FnVoiceShareUptoSaid : Prop := fnVoiceShareUptoRow.holds Try.pinned (OpenSpec.upto fnVoiceShareSpec)

/-- 'laws.FnExactVoiceValid', WHERE WHAT IT READS IS OF BULK AT MOST 1048576: true; the input reads as it did. -/
def fnExactVoiceValidUptoRow : OpenClaim := { program := "ytfbpnneegenhgaa", sum := "6fef1a06ab28e286fff81db7743ab7d2cc606d4beff756988fc50252e9e36f9d", func := "loop.example/homeconsole/laws.FnExactVoiceValid", spec := "fnExactVoiceValid", apart := false, narrowed := true }
def FnExactVoiceValidUptoSaid : Prop := fnExactVoiceValidUptoRow.holds Try.pinned (OpenSpec.upto fnExactVoiceValidSpec)

/-- 'laws.FnExactPlayVoice', WHERE WHAT IT READS IS OF BULK AT MOST 1048576: true; the input reads as it did. -/
def fnExactPlayVoiceUptoRow : OpenClaim := { program := "ytfbpnneegenhgaa", sum := "6fef1a06ab28e286fff81db7743ab7d2cc606d4beff756988fc50252e9e36f9d", func := "loop.example/homeconsole/laws.FnExactPlayVoice", spec := "fnExactPlayVoice", apart := false, narrowed := true }
def FnExactPlayVoiceUptoSaid : Prop := fnExactPlayVoiceUptoRow.holds Try.pinned (OpenSpec.upto fnExactPlayVoiceSpec)

/-- 'laws.FnExactSkipVoice', WHERE WHAT IT READS IS OF BULK AT MOST 1048576: true; the input reads as it did. -/
def fnExactSkipVoiceUptoRow : OpenClaim := { program := "ytfbpnneegenhgaa", sum := "6fef1a06ab28e286fff81db7743ab7d2cc606d4beff756988fc50252e9e36f9d", func := "loop.example/homeconsole/laws.FnExactSkipVoice", spec := "fnExactSkipVoice", apart := false, narrowed := true }
def FnExactSkipVoiceUptoSaid : Prop := fnExactSkipVoiceUptoRow.holds Try.pinned (OpenSpec.upto fnExactSkipVoiceSpec)

/-- 'laws.FnExactMixVoices', WHERE WHAT IT READS IS OF BULK AT MOST 1048576: true; the input reads as it did. -/
def fnExactMixVoicesUptoRow : OpenClaim := { program := "ytfbpnneegenhgaa", sum := "6fef1a06ab28e286fff81db7743ab7d2cc606d4beff756988fc50252e9e36f9d", func := "loop.example/homeconsole/laws.FnExactMixVoices", spec := "fnExactMixVoices", apart := false, narrowed := true }
def FnExactMixVoicesUptoSaid : Prop := fnExactMixVoicesUptoRow.holds Try.pinned (OpenSpec.upto fnExactMixVoicesSpec)

/-- 'laws.FnExactFadeVolume', WHERE WHAT IT READS IS OF BULK AT MOST 1048576: true; the input reads as it did. -/
def fnExactFadeVolumeUptoRow : OpenClaim := { program := "ytfbpnneegenhgaa", sum := "6fef1a06ab28e286fff81db7743ab7d2cc606d4beff756988fc50252e9e36f9d", func := "loop.example/homeconsole/laws.FnExactFadeVolume", spec := "fnExactFadeVolume", apart := false, narrowed := true }
def FnExactFadeVolumeUptoSaid : Prop := fnExactFadeVolumeUptoRow.holds Try.pinned (OpenSpec.upto fnExactFadeVolumeSpec)

end Rows
end Go.Proofs.Ytfbpnneegenhgaa
