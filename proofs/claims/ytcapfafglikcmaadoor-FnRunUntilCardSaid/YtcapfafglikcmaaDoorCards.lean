/-
  DERIVED. GIVEN WITH THE SEED: THE CARDS: each row of YtcapfafglikcmaaDoorRows.lean that lists a variable, with what it lists TIED to the program's text (the seventh form; the later family's looks); each row that meets fmt, with fmt's text TOLD by the authors' own Lean function (tested against real Go, not proved from fmt's source: count such statements apart). THE CARD IS WHAT COUNTS. Prove the row's statement (the work); the ties are given (YtcapfafglikcmaaDoorTie.lean); close each card by the builder's one call (the guide's Derived/Test/ToyasCard.lean, 'card_holds'). Laid BY PROGRAM, IN A SANDBOX (cutbox-door.mjs). By AI agents, Wed Nov 11 2026. No macro, syntax, notation, axiom, sorry.
-/
import Derived.Test.YtcapfafglikcmaaDoorRows
import GoSem.ClaimSeven
namespace Go.Proofs.YtcapfafglikcmaaDoor
namespace Rows

/-- THE TIED CARD OF 'laws.FnStepMachine'. -/
def fnStepMachineCard : Claim7 := { stood := { row := fnStepMachineRow, standIns := [], harness := (true, "daeae22e009948e485aaa234c0a79ca9fd29c49ad9a165e299705b6ac5cef183"), looks := false }, kinds := [], alts := [], laidByText := true, laidKinds := [.data], laidTests := true, laidLooks := .later }
def FnStepMachineCardSaid : Prop := Claim7.holds Tryd.pinned (.plain (OpenSpec.ofChange fnStepMachineSpec)) fnStepMachineCard

/-- THE TIED CARD OF 'laws.FnRunMachine'. -/
def fnRunMachineCard : Claim7 := { stood := { row := fnRunMachineRow, standIns := [], harness := (true, "daeae22e009948e485aaa234c0a79ca9fd29c49ad9a165e299705b6ac5cef183"), looks := false }, kinds := [], alts := [], laidByText := true, laidKinds := [.data], laidTests := true, laidLooks := .later }
def FnRunMachineCardSaid : Prop := Claim7.holds Tryd.pinned (.plain (OpenSpec.ofChange fnRunMachineSpec)) fnRunMachineCard

/-- THE TIED CARD OF 'laws.FnRunUntil'. -/
def fnRunUntilCard : Claim7 := { stood := { row := fnRunUntilRow, standIns := [], harness := (true, "daeae22e009948e485aaa234c0a79ca9fd29c49ad9a165e299705b6ac5cef183"), looks := false }, kinds := [], alts := [], laidByText := true, laidKinds := [.data], laidTests := true, laidLooks := .later }
def FnRunUntilCardSaid : Prop := Claim7.holds Tryd.pinned (.plain (OpenSpec.ofChange fnRunUntilSpec)) fnRunUntilCard

/-- THE TIED CARD OF 'laws.FnProgramWaits'. -/
def fnProgramWaitsCard : Claim7 := { stood := { row := fnProgramWaitsRow, standIns := [], harness := (true, "daeae22e009948e485aaa234c0a79ca9fd29c49ad9a165e299705b6ac5cef183"), looks := false }, kinds := [], alts := [], laidByText := true, laidKinds := [.data], laidTests := true, laidLooks := .later }
def FnProgramWaitsCardSaid : Prop := Claim7.holds Tryd.pinned (.plain (OpenSpec.ofChange fnProgramWaitsSpec)) fnProgramWaitsCard

/-- THE SECOND FORM's CARD OF 'laws.FnStepMachine'. -/
def fnStepMachineUptoCard : Claim7 := { stood := { row := fnStepMachineUptoRow, standIns := [], harness := (true, "daeae22e009948e485aaa234c0a79ca9fd29c49ad9a165e299705b6ac5cef183"), looks := false }, kinds := [], alts := [], laidByText := true, laidKinds := [.data], laidTests := true, laidLooks := .later }
def FnStepMachineUptoCardSaid : Prop := Claim7.holds Tryd.pinned (.plain (OpenSpec.upto fnStepMachineSpec)) fnStepMachineUptoCard

/-- THE SECOND FORM's CARD OF 'laws.FnRunMachine'. -/
def fnRunMachineUptoCard : Claim7 := { stood := { row := fnRunMachineUptoRow, standIns := [], harness := (true, "daeae22e009948e485aaa234c0a79ca9fd29c49ad9a165e299705b6ac5cef183"), looks := false }, kinds := [], alts := [], laidByText := true, laidKinds := [.data], laidTests := true, laidLooks := .later }
def FnRunMachineUptoCardSaid : Prop := Claim7.holds Tryd.pinned (.plain (OpenSpec.upto fnRunMachineSpec)) fnRunMachineUptoCard

/-- THE SECOND FORM's CARD OF 'laws.FnRunUntil'. -/
def fnRunUntilUptoCard : Claim7 := { stood := { row := fnRunUntilUptoRow, standIns := [], harness := (true, "daeae22e009948e485aaa234c0a79ca9fd29c49ad9a165e299705b6ac5cef183"), looks := false }, kinds := [], alts := [], laidByText := true, laidKinds := [.data], laidTests := true, laidLooks := .later }
def FnRunUntilUptoCardSaid : Prop := Claim7.holds Tryd.pinned (.plain (OpenSpec.upto fnRunUntilSpec)) fnRunUntilUptoCard

/-- THE SECOND FORM's CARD OF 'laws.FnProgramWaits'. -/
def fnProgramWaitsUptoCard : Claim7 := { stood := { row := fnProgramWaitsUptoRow, standIns := [], harness := (true, "daeae22e009948e485aaa234c0a79ca9fd29c49ad9a165e299705b6ac5cef183"), looks := false }, kinds := [], alts := [], laidByText := true, laidKinds := [.data], laidTests := true, laidLooks := .later }
def FnProgramWaitsUptoCardSaid : Prop := Claim7.holds Tryd.pinned (.plain (OpenSpec.upto fnProgramWaitsSpec)) fnProgramWaitsUptoCard
end Rows
end Go.Proofs.YtcapfafglikcmaaDoor
