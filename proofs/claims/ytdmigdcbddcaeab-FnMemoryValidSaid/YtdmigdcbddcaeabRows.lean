/-
  No cell of these rows narrows 'for every input' (looked for: loops, veiled, ifaces, maps, wideKeys, modest, calm, conditions, laid).
  DERIVED. THE GIVEN ROWS OF THIS SEAT. 6 by the template 'for every input the law returns true; each argument reads behind the call as it read before'; 0 by the template 'total and deterministic' (their statements: YtdmigdcbddcaeabTotals.lean).
  GIVEN WITH THE SEED: the statements are not yours to turn. If you find one false, say at which input.
  Laid BY PROGRAM, IN A SANDBOX (cutbox-rows.mjs): the forced cells as the released guide's own fill.sh prints them over the translation 711f9b2ec021fe6f… (all of the seat's roots in one cut). By AI agents, Wed Nov 11 2026. No macro, syntax, notation, axiom, sorry.
-/
import Derived.Test.YtdmigdcbddcaeabChecked
import GoSem.Claim
import GoSem.ClaimJoined
import GoSem.ClaimMapViews
import Derived.JoinedTies
import Derived.KernelRfl
namespace Go.Proofs.Ytdmigdcbddcaeab
/- THE CELL 'sum', in the pinned program and in every row, IS THE sha256 OF THE DUMP (.gsa) THAT YtdmigdcbddcaeabProg.lean LOADS. Nothing in Lean hashes anything: it is a label: what it is worth is what the hold of that sum in a sandbox is worth. -/
noncomputable def Try.pinned : Pinned := { name := "ytdmigdcbddcaeab", sum := "711f9b2ec021fe6f5a2cb98962da1d97b5d98e0e4fc346bc96272a248fafca4e", checked := Try.checked }
namespace Rows
def none {H : Type} : Left H := { results := [], args := [] }

/-- 'laws.FnMemoryValid': WHATEVER THE INPUT: true; the input reads as it did. -/
def fnMemoryValidSpec : ChangeSpec := { name := "fnMemoryValid", fn := fun _ => fun
  | [d] => { results := [.lit (.bool true)], args := [d] }
  | _ => none }
def fnMemoryValidRow : OpenClaim := { program := "ytdmigdcbddcaeab", sum := "711f9b2ec021fe6f5a2cb98962da1d97b5d98e0e4fc346bc96272a248fafca4e", func := "loop.example/homeconsole/laws.FnMemoryValid", spec := "fnMemoryValid", apart := false }
def FnMemoryValidSaid : Prop := fnMemoryValidRow.holds Try.pinned (OpenSpec.ofChange fnMemoryValidSpec)

/-- ITS FALSE NEIGHBOUR: 'it returns false'. Refute it at one input. -/
def fnMemoryValidWrong : ChangeSpec := { name := "fnMemoryValid", fn := fun _ => fun
  | [d] => { results := [.lit (.bool false)], args := [d] }
  | _ => none }
def FnMemoryValidWrongFalsely : Prop := fnMemoryValidRow.holds Try.pinned (OpenSpec.ofChange fnMemoryValidWrong)

/-- 'laws.FnReadMemory': WHATEVER THE INPUT: true; the input reads as it did. -/
def fnReadMemorySpec : ChangeSpec := { name := "fnReadMemory", fn := fun _ => fun
  | [d] => { results := [.lit (.bool true)], args := [d] }
  | _ => none }
def fnReadMemoryRow : OpenClaim := { program := "ytdmigdcbddcaeab", sum := "711f9b2ec021fe6f5a2cb98962da1d97b5d98e0e4fc346bc96272a248fafca4e", func := "loop.example/homeconsole/laws.FnReadMemory", spec := "fnReadMemory", unfollowed := true, recurses := true, apart := false }
def FnReadMemorySaid : Prop := fnReadMemoryRow.holds Try.pinned (OpenSpec.ofChange fnReadMemorySpec)

/-- ITS FALSE NEIGHBOUR: 'it returns false'. Refute it at one input. -/
def fnReadMemoryWrong : ChangeSpec := { name := "fnReadMemory", fn := fun _ => fun
  | [d] => { results := [.lit (.bool false)], args := [d] }
  | _ => none }
def FnReadMemoryWrongFalsely : Prop := fnReadMemoryRow.holds Try.pinned (OpenSpec.ofChange fnReadMemoryWrong)

/-- 'laws.FnWriteMemory': WHATEVER THE INPUT: true; the input reads as it did. -/
def fnWriteMemorySpec : ChangeSpec := { name := "fnWriteMemory", fn := fun _ => fun
  | [d] => { results := [.lit (.bool true)], args := [d] }
  | _ => none }
def fnWriteMemoryRow : OpenClaim := { program := "ytdmigdcbddcaeab", sum := "711f9b2ec021fe6f5a2cb98962da1d97b5d98e0e4fc346bc96272a248fafca4e", func := "loop.example/homeconsole/laws.FnWriteMemory", spec := "fnWriteMemory", unfollowed := true, recurses := true, apart := false }
def FnWriteMemorySaid : Prop := fnWriteMemoryRow.holds Try.pinned (OpenSpec.ofChange fnWriteMemorySpec)

/-- ITS FALSE NEIGHBOUR: 'it returns false'. Refute it at one input. -/
def fnWriteMemoryWrong : ChangeSpec := { name := "fnWriteMemory", fn := fun _ => fun
  | [d] => { results := [.lit (.bool false)], args := [d] }
  | _ => none }
def FnWriteMemoryWrongFalsely : Prop := fnWriteMemoryRow.holds Try.pinned (OpenSpec.ofChange fnWriteMemoryWrong)

/-- 'laws.FnCopyMemory': WHATEVER THE INPUT: true; the input reads as it did. -/
def fnCopyMemorySpec : ChangeSpec := { name := "fnCopyMemory", fn := fun _ => fun
  | [d] => { results := [.lit (.bool true)], args := [d] }
  | _ => none }
def fnCopyMemoryRow : OpenClaim := { program := "ytdmigdcbddcaeab", sum := "711f9b2ec021fe6f5a2cb98962da1d97b5d98e0e4fc346bc96272a248fafca4e", func := "loop.example/homeconsole/laws.FnCopyMemory", spec := "fnCopyMemory", unfollowed := true, recurses := true, apart := false }
def FnCopyMemorySaid : Prop := fnCopyMemoryRow.holds Try.pinned (OpenSpec.ofChange fnCopyMemorySpec)

/-- ITS FALSE NEIGHBOUR: 'it returns false'. Refute it at one input. -/
def fnCopyMemoryWrong : ChangeSpec := { name := "fnCopyMemory", fn := fun _ => fun
  | [d] => { results := [.lit (.bool false)], args := [d] }
  | _ => none }
def FnCopyMemoryWrongFalsely : Prop := fnCopyMemoryRow.holds Try.pinned (OpenSpec.ofChange fnCopyMemoryWrong)

/-- 'laws.FnCopyFill': WHATEVER THE INPUT: true; the input reads as it did. -/
def fnCopyFillSpec : ChangeSpec := { name := "fnCopyFill", fn := fun _ => fun
  | [d] => { results := [.lit (.bool true)], args := [d] }
  | _ => none }
def fnCopyFillRow : OpenClaim := { program := "ytdmigdcbddcaeab", sum := "711f9b2ec021fe6f5a2cb98962da1d97b5d98e0e4fc346bc96272a248fafca4e", func := "loop.example/homeconsole/laws.FnCopyFill", spec := "fnCopyFill", unfollowed := true, recurses := true, apart := false }
def FnCopyFillSaid : Prop := fnCopyFillRow.holds Try.pinned (OpenSpec.ofChange fnCopyFillSpec)

/-- ITS FALSE NEIGHBOUR: 'it returns false'. Refute it at one input. -/
def fnCopyFillWrong : ChangeSpec := { name := "fnCopyFill", fn := fun _ => fun
  | [d] => { results := [.lit (.bool false)], args := [d] }
  | _ => none }
def FnCopyFillWrongFalsely : Prop := fnCopyFillRow.holds Try.pinned (OpenSpec.ofChange fnCopyFillWrong)

/-- 'laws.FnBankSwitch': WHATEVER THE INPUT: true; the input reads as it did. -/
def fnBankSwitchSpec : ChangeSpec := { name := "fnBankSwitch", fn := fun _ => fun
  | [d] => { results := [.lit (.bool true)], args := [d] }
  | _ => none }
def fnBankSwitchRow : OpenClaim := { program := "ytdmigdcbddcaeab", sum := "711f9b2ec021fe6f5a2cb98962da1d97b5d98e0e4fc346bc96272a248fafca4e", func := "loop.example/homeconsole/laws.FnBankSwitch", spec := "fnBankSwitch", unfollowed := true, recurses := true, apart := false }
def FnBankSwitchSaid : Prop := fnBankSwitchRow.holds Try.pinned (OpenSpec.ofChange fnBankSwitchSpec)

/-- ITS FALSE NEIGHBOUR: 'it returns false'. Refute it at one input. -/
def fnBankSwitchWrong : ChangeSpec := { name := "fnBankSwitch", fn := fun _ => fun
  | [d] => { results := [.lit (.bool false)], args := [d] }
  | _ => none }
def FnBankSwitchWrongFalsely : Prop := fnBankSwitchRow.holds Try.pinned (OpenSpec.ofChange fnBankSwitchWrong)

/- THE SECOND FORM. 'bulk': how many values and letters a reading holds, each counted each time it is reached (what is shared counts as often as it is met; a slice's spare places count too). A statement '..UptoSaid' is the law's where the arguments, and the package variables that the reading takes, are together of bulk at most 1048576: NARROWER than '..Said'. Prove '..Said' where nothing that the law and all that it calls make is longer than what came in: it says more and counts as full. Else prove '..UptoSaid'. A law counts once. -/
mutual
def uptoBulk {H : Type} : DataW H → Nat
  | .lit (.string bytes) => bytes.length + 1
  | .lit _ => 1
  | .nil => 1
  | .ptr d => uptoBulk d + 1
  | .slice elems spare => uptoBulkAll elems + uptoBulkAll spare + 1
  | .agg parts => uptoBulkAll parts + 1
  | .iface _ d => uptoBulk d + 1
  | .map entries => uptoBulkEntries entries + 1
  | .held _ => 1
def uptoBulkAll {H : Type} : List (DataW H) → Nat
  | [] => 0
  | d :: r => uptoBulk d + uptoBulkAll r
def uptoBulkEntries {H : Type} : List (Lit × DataW H) → Nat
  | [] => 0
  | x :: r => uptoBulkEntry x + uptoBulkEntries r
def uptoBulkEntry {H : Type} : Lit × DataW H → Nat
  | (.string bytes, d) => bytes.length + uptoBulk d + 1
  | (_, d) => uptoBulk d + 1
 end
def uptoSmall : (H : Type) → List (DataW H) → Bool := fun _ ds => decide (uptoBulkAll ds ≤ 1048576)
def OpenSpec.upto (s : _root_.Go.ChangeSpec) : _root_.Go.OpenSpec := { _root_.Go.OpenSpec.ofChange s with cond := some uptoSmall }

/-- 'laws.FnMemoryValid', WHERE WHAT IT READS IS OF BULK AT MOST 1048576: true; the input reads as it did. -/
def fnMemoryValidUptoRow : OpenClaim := { program := "ytdmigdcbddcaeab", sum := "711f9b2ec021fe6f5a2cb98962da1d97b5d98e0e4fc346bc96272a248fafca4e", func := "loop.example/homeconsole/laws.FnMemoryValid", spec := "fnMemoryValid", apart := false, narrowed := true }
def FnMemoryValidUptoSaid : Prop := fnMemoryValidUptoRow.holds Try.pinned (OpenSpec.upto fnMemoryValidSpec)

/-- 'laws.FnReadMemory', WHERE WHAT IT READS IS OF BULK AT MOST 1048576: true; the input reads as it did. -/
def fnReadMemoryUptoRow : OpenClaim := { program := "ytdmigdcbddcaeab", sum := "711f9b2ec021fe6f5a2cb98962da1d97b5d98e0e4fc346bc96272a248fafca4e", func := "loop.example/homeconsole/laws.FnReadMemory", spec := "fnReadMemory", unfollowed := true, recurses := true, apart := false, narrowed := true }
def FnReadMemoryUptoSaid : Prop := fnReadMemoryUptoRow.holds Try.pinned (OpenSpec.upto fnReadMemorySpec)

/-- 'laws.FnWriteMemory', WHERE WHAT IT READS IS OF BULK AT MOST 1048576: true; the input reads as it did. -/
def fnWriteMemoryUptoRow : OpenClaim := { program := "ytdmigdcbddcaeab", sum := "711f9b2ec021fe6f5a2cb98962da1d97b5d98e0e4fc346bc96272a248fafca4e", func := "loop.example/homeconsole/laws.FnWriteMemory", spec := "fnWriteMemory", unfollowed := true, recurses := true, apart := false, narrowed := true }
def FnWriteMemoryUptoSaid : Prop := fnWriteMemoryUptoRow.holds Try.pinned (OpenSpec.upto fnWriteMemorySpec)

/-- 'laws.FnCopyMemory', WHERE WHAT IT READS IS OF BULK AT MOST 1048576: true; the input reads as it did. -/
def fnCopyMemoryUptoRow : OpenClaim := { program := "ytdmigdcbddcaeab", sum := "711f9b2ec021fe6f5a2cb98962da1d97b5d98e0e4fc346bc96272a248fafca4e", func := "loop.example/homeconsole/laws.FnCopyMemory", spec := "fnCopyMemory", unfollowed := true, recurses := true, apart := false, narrowed := true }
def FnCopyMemoryUptoSaid : Prop := fnCopyMemoryUptoRow.holds Try.pinned (OpenSpec.upto fnCopyMemorySpec)

/-- 'laws.FnCopyFill', WHERE WHAT IT READS IS OF BULK AT MOST 1048576: true; the input reads as it did. -/
def fnCopyFillUptoRow : OpenClaim := { program := "ytdmigdcbddcaeab", sum := "711f9b2ec021fe6f5a2cb98962da1d97b5d98e0e4fc346bc96272a248fafca4e", func := "loop.example/homeconsole/laws.FnCopyFill", spec := "fnCopyFill", unfollowed := true, recurses := true, apart := false, narrowed := true }
def FnCopyFillUptoSaid : Prop := fnCopyFillUptoRow.holds Try.pinned (OpenSpec.upto fnCopyFillSpec)

/-- 'laws.FnBankSwitch', WHERE WHAT IT READS IS OF BULK AT MOST 1048576: true; the input reads as it did. -/
def fnBankSwitchUptoRow : OpenClaim := { program := "ytdmigdcbddcaeab", sum := "711f9b2ec021fe6f5a2cb98962da1d97b5d98e0e4fc346bc96272a248fafca4e", func := "loop.example/homeconsole/laws.FnBankSwitch", spec := "fnBankSwitch", unfollowed := true, recurses := true, apart := false, narrowed := true }
def FnBankSwitchUptoSaid : Prop := fnBankSwitchUptoRow.holds Try.pinned (OpenSpec.upto fnBankSwitchSpec)

end Rows
end Go.Proofs.Ytdmigdcbddcaeab
