/-
  DERIVED. GIVEN WITH THE SEED: THE CARDS: each row of YtehiplkoofdkeaaDoorRows.lean that lists a variable, with what it lists TIED to the program's text (the seventh form; the later family's looks); each row that meets fmt, with fmt's text TOLD by the authors' own Lean function (tested against real Go, not proved from fmt's source: count such statements apart). THE CARD IS WHAT COUNTS. Prove the row's statement (the work); the ties are given (YtehiplkoofdkeaaDoorTie.lean); close each card by the builder's one call (the guide's Derived/Test/ToyasCard.lean, 'card_holds'). Laid BY PROGRAM, IN A SANDBOX (cutbox-door.mjs). By AI agents, Wed Nov 11 2026. No macro, syntax, notation, axiom, sorry.
-/
import Derived.Test.YtehiplkoofdkeaaDoorRows
import GoSem.ClaimSeven
namespace Go.Proofs.YtehiplkoofdkeaaDoor
namespace Rows

/-- THE TIED CARD OF 'laws.FnAssemble'. -/
def fnAssembleCard : Claim7 := { stood := { row := fnAssembleRow, standIns := [], harness := (true, "6a477150d637fc29af2ba0ad7b09a896835e808292b8236af9e883af387c2986"), looks := true }, kinds := [], alts := [], laidByText := true, laidKinds := [.data, .data, .data, .sentinel, .sentinel, .data], laidTests := true, laidLooks := .later }
def FnAssembleCardSaid : Prop := Claim7.holds Tryd.pinned (.plain (OpenSpec.ofChange fnAssembleSpec)) fnAssembleCard

/-- THE SECOND FORM's CARD OF 'laws.FnAssemble'. -/
def fnAssembleUptoCard : Claim7 := { stood := { row := fnAssembleUptoRow, standIns := [], harness := (true, "6a477150d637fc29af2ba0ad7b09a896835e808292b8236af9e883af387c2986"), looks := true }, kinds := [], alts := [], laidByText := true, laidKinds := [.data, .data, .data, .sentinel, .sentinel, .data], laidTests := true, laidLooks := .later }
def FnAssembleUptoCardSaid : Prop := Claim7.holds Tryd.pinned (.plain (OpenSpec.upto fnAssembleSpec)) fnAssembleUptoCard
end Rows
end Go.Proofs.YtehiplkoofdkeaaDoor
