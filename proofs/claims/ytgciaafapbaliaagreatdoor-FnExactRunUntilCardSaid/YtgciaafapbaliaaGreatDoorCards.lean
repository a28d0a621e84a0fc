/-
  DERIVED. GIVEN WITH THE SEED: THE CARDS: each row of YtgciaafapbaliaaGreatDoorRows.lean that lists a variable, with what it lists TIED to the program's text (the seventh form; the later family's looks); each row that meets fmt, with fmt's text TOLD by the authors' own Lean function (tested against real Go, not proved from fmt's source: count such statements apart). THE CARD IS WHAT COUNTS. Prove the row's statement (the work); the ties are given (YtgciaafapbaliaaGreatDoorTie.lean); close each card by the builder's one call (the guide's Derived/Test/ToyasCard.lean, 'card_holds'). Laid BY PROGRAM, IN A SANDBOX (cutbox-door.mjs). By AI agents, Wed Nov 11 2026. No macro, syntax, notation, axiom, sorry.
-/
import Derived.Test.YtgciaafapbaliaaGreatDoorRows
import GoSem.ClaimSeven
namespace Go.Proofs.YtgciaafapbaliaaGreatDoor
namespace Rows

/-- THE TIED CARD OF 'laws.FnExactStepMachine'. -/
def fnExactStepMachineCard : Claim7 := { stood := { row := fnExactStepMachineRow, standIns := [], harness := (true, "55e9713cb9097e0ed50bc66fcf8095501f0e6c722a993dd733f47d6ef291b768"), looks := false }, kinds := [], alts := [], laidByText := true, laidKinds := [.data], laidTests := true, laidLooks := .later }
def FnExactStepMachineCardSaid : Prop := Claim7.holds Tryz.pinned (.plain (OpenSpec.ofChange fnExactStepMachineSpec)) fnExactStepMachineCard

/-- THE TIED CARD OF 'laws.FnExactRunMachine'. -/
def fnExactRunMachineCard : Claim7 := { stood := { row := fnExactRunMachineRow, standIns := [], harness := (true, "55e9713cb9097e0ed50bc66fcf8095501f0e6c722a993dd733f47d6ef291b768"), looks := false }, kinds := [], alts := [], laidByText := true, laidKinds := [.data], laidTests := true, laidLooks := .later }
def FnExactRunMachineCardSaid : Prop := Claim7.holds Tryz.pinned (.plain (OpenSpec.ofChange fnExactRunMachineSpec)) fnExactRunMachineCard

/-- THE TIED CARD OF 'laws.FnExactRunUntil'. -/
def fnExactRunUntilCard : Claim7 := { stood := { row := fnExactRunUntilRow, standIns := [], harness := (true, "55e9713cb9097e0ed50bc66fcf8095501f0e6c722a993dd733f47d6ef291b768"), looks := false }, kinds := [], alts := [], laidByText := true, laidKinds := [.data], laidTests := true, laidLooks := .later }
def FnExactRunUntilCardSaid : Prop := Claim7.holds Tryz.pinned (.plain (OpenSpec.ofChange fnExactRunUntilSpec)) fnExactRunUntilCard

/-- THE SECOND FORM's CARD OF 'laws.FnExactStepMachine'. -/
def fnExactStepMachineUptoCard : Claim7 := { stood := { row := fnExactStepMachineUptoRow, standIns := [], harness := (true, "55e9713cb9097e0ed50bc66fcf8095501f0e6c722a993dd733f47d6ef291b768"), looks := false }, kinds := [], alts := [], laidByText := true, laidKinds := [.data], laidTests := true, laidLooks := .later }
def FnExactStepMachineUptoCardSaid : Prop := Claim7.holds Tryz.pinned (.plain (OpenSpec.upto fnExactStepMachineSpec)) fnExactStepMachineUptoCard

/-- THE SECOND FORM's CARD OF 'laws.FnExactRunMachine'. -/
def fnExactRunMachineUptoCard : Claim7 := { stood := { row := fnExactRunMachineUptoRow, standIns := [], harness := (true, "55e9713cb9097e0ed50bc66fcf8095501f0e6c722a993dd733f47d6ef291b768"), looks := false }, kinds := [], alts := [], laidByText := true, laidKinds := [.data], laidTests := true, laidLooks := .later }
def FnExactRunMachineUptoCardSaid : Prop := Claim7.holds Tryz.pinned (.plain (OpenSpec.upto fnExactRunMachineSpec)) fnExactRunMachineUptoCard

/-- THE SECOND FORM's CARD OF 'laws.FnExactRunUntil'. -/
def fnExactRunUntilUptoCard : Claim7 := { stood := { row := fnExactRunUntilUptoRow, standIns := [], harness := (true, "55e9713cb9097e0ed50bc66fcf8095501f0e6c722a993dd733f47d6ef291b768"), looks := false }, kinds := [], alts := [], laidByText := true, laidKinds := [.data], laidTests := true, laidLooks := .later }
def FnExactRunUntilUptoCardSaid : Prop := Claim7.holds Tryz.pinned (.plain (OpenSpec.upto fnExactRunUntilSpec)) fnExactRunUntilUptoCard
end Rows
end Go.Proofs.YtgciaafapbaliaaGreatDoor
