/-
  DERIVED. GIVEN WITH THE SEED: THE CARDS: each row of YthndghhnpnaonaaDoorRows.lean that lists a variable, with what it lists TIED to the program's text (the seventh form; the later family's looks); each row that meets fmt, with fmt's text TOLD by the authors' own Lean function (tested against real Go, not proved from fmt's source: count such statements apart). THE CARD IS WHAT COUNTS. Prove the row's statement (the work); the ties are given (YthndghhnpnaonaaDoorTie.lean); close each card by the builder's one call (the guide's Derived/Test/ToyasCard.lean, 'card_holds'). Laid BY PROGRAM, IN A SANDBOX (cutbox-door.mjs). By AI agents, Wed Nov 11 2026. No macro, syntax, notation, axiom, sorry.
-/
import Derived.Test.YthndghhnpnaonaaDoorRows
import GoSem.ClaimSeven
namespace Go.Proofs.YthndghhnpnaonaaDoor
namespace Rows

/-- THE TIED CARD OF 'laws.FnOrderLength'. -/
def fnOrderLengthCard : Claim7 := { stood := { row := fnOrderLengthRow, standIns := [], harness := (true, "27e20f77dd65f4cfae77065058c02415209f256a3e75c627e2da85d90d596558"), looks := false }, kinds := [], alts := [], laidByText := true, laidKinds := [.data], laidTests := true, laidLooks := .later }
def FnOrderLengthCardSaid : Prop := Claim7.holds Tryd.pinned (.plain (OpenSpec.ofChange fnOrderLengthSpec)) fnOrderLengthCard

/-- THE TIED CARD OF 'laws.FnOrderValid'. -/
def fnOrderValidCard : Claim7 := { stood := { row := fnOrderValidRow, standIns := [], harness := (true, "27e20f77dd65f4cfae77065058c02415209f256a3e75c627e2da85d90d596558"), looks := false }, kinds := [], alts := [], laidByText := true, laidKinds := [.data], laidTests := true, laidLooks := .later }
def FnOrderValidCardSaid : Prop := Claim7.holds Tryd.pinned (.plain (OpenSpec.ofChange fnOrderValidSpec)) fnOrderValidCard

/-- THE TIED CARD OF 'laws.FnOrderBytes'. -/
def fnOrderBytesCard : Claim7 := { stood := { row := fnOrderBytesRow, standIns := [], harness := (true, "27e20f77dd65f4cfae77065058c02415209f256a3e75c627e2da85d90d596558"), looks := false }, kinds := [], alts := [], laidByText := true, laidKinds := [.data], laidTests := true, laidLooks := .later }
def FnOrderBytesCardSaid : Prop := Claim7.holds Tryd.pinned (.plain (OpenSpec.ofChange fnOrderBytesSpec)) fnOrderBytesCard

/-- THE TIED CARD OF 'laws.FnDecodeOrder'. -/
def fnDecodeOrderCard : Claim7 := { stood := { row := fnDecodeOrderRow, standIns := [], harness := (true, "27e20f77dd65f4cfae77065058c02415209f256a3e75c627e2da85d90d596558"), looks := false }, kinds := [], alts := [], laidByText := true, laidKinds := [.data], laidTests := true, laidLooks := .later }
def FnDecodeOrderCardSaid : Prop := Claim7.holds Tryd.pinned (.plain (OpenSpec.ofChange fnDecodeOrderSpec)) fnDecodeOrderCard

/-- THE TIED CARD OF 'laws.FnOrderUnique'. -/
def fnOrderUniqueCard : Claim7 := { stood := { row := fnOrderUniqueRow, standIns := [], harness := (true, "27e20f77dd65f4cfae77065058c02415209f256a3e75c627e2da85d90d596558"), looks := false }, kinds := [], alts := [], laidByText := true, laidKinds := [.data], laidTests := true, laidLooks := .later }
def FnOrderUniqueCardSaid : Prop := Claim7.holds Tryd.pinned (.plain (OpenSpec.ofChange fnOrderUniqueSpec)) fnOrderUniqueCard

/-- THE TIED CARD OF 'laws.FnExactOrderLength'. -/
def fnExactOrderLengthCard : Claim7 := { stood := { row := fnExactOrderLengthRow, standIns := [], harness := (true, "27e20f77dd65f4cfae77065058c02415209f256a3e75c627e2da85d90d596558"), looks := false }, kinds := [], alts := [], laidByText := true, laidKinds := [.data], laidTests := true, laidLooks := .later }
def FnExactOrderLengthCardSaid : Prop := Claim7.holds Tryd.pinned (.plain (OpenSpec.ofChange fnExactOrderLengthSpec)) fnExactOrderLengthCard

/-- THE TIED CARD OF 'laws.FnExactOrderValid'. -/
def fnExactOrderValidCard : Claim7 := { stood := { row := fnExactOrderValidRow, standIns := [], harness := (true, "27e20f77dd65f4cfae77065058c02415209f256a3e75c627e2da85d90d596558"), looks := false }, kinds := [], alts := [], laidByText := true, laidKinds := [.data], laidTests := true, laidLooks := .later }
def FnExactOrderValidCardSaid : Prop := Claim7.holds Tryd.pinned (.plain (OpenSpec.ofChange fnExactOrderValidSpec)) fnExactOrderValidCard

/-- THE TIED CARD OF 'laws.FnExactOrderBytes'. -/
def fnExactOrderBytesCard : Claim7 := { stood := { row := fnExactOrderBytesRow, standIns := [], harness := (true, "27e20f77dd65f4cfae77065058c02415209f256a3e75c627e2da85d90d596558"), looks := false }, kinds := [], alts := [], laidByText := true, laidKinds := [.data], laidTests := true, laidLooks := .later }
def FnExactOrderBytesCardSaid : Prop := Claim7.holds Tryd.pinned (.plain (OpenSpec.ofChange fnExactOrderBytesSpec)) fnExactOrderBytesCard

/-- THE TIED CARD OF 'laws.FnExactDecodeOrder'. -/
def fnExactDecodeOrderCard : Claim7 := { stood := { row := fnExactDecodeOrderRow, standIns := [], harness := (true, "27e20f77dd65f4cfae77065058c02415209f256a3e75c627e2da85d90d596558"), looks := false }, kinds := [], alts := [], laidByText := true, laidKinds := [.data], laidTests := true, laidLooks := .later }
def FnExactDecodeOrderCardSaid : Prop := Claim7.holds Tryd.pinned (.plain (OpenSpec.ofChange fnExactDecodeOrderSpec)) fnExactDecodeOrderCard

/-- THE SECOND FORM's CARD OF 'laws.FnOrderLength'. -/
def fnOrderLengthUptoCard : Claim7 := { stood := { row := fnOrderLengthUptoRow, standIns := [], harness := (true, "27e20f77dd65f4cfae77065058c02415209f256a3e75c627e2da85d90d596558"), looks := false }, kinds := [], alts := [], laidByText := true, laidKinds := [.data], laidTests := true, laidLooks := .later }
def FnOrderLengthUptoCardSaid : Prop := Claim7.holds Tryd.pinned (.plain (OpenSpec.upto fnOrderLengthSpec)) fnOrderLengthUptoCard

/-- THE SECOND FORM's CARD OF 'laws.FnOrderValid'. -/
def fnOrderValidUptoCard : Claim7 := { stood := { row := fnOrderValidUptoRow, standIns := [], harness := (true, "27e20f77dd65f4cfae77065058c02415209f256a3e75c627e2da85d90d596558"), looks := false }, kinds := [], alts := [], laidByText := true, laidKinds := [.data], laidTests := true, laidLooks := .later }
def FnOrderValidUptoCardSaid : Prop := Claim7.holds Tryd.pinned (.plain (OpenSpec.upto fnOrderValidSpec)) fnOrderValidUptoCard

/-- THE SECOND FORM's CARD OF 'laws.FnOrderBytes'. -/
def fnOrderBytesUptoCard : Claim7 := { stood := { row := fnOrderBytesUptoRow, standIns := [], harness := (true, "27e20f77dd65f4cfae77065058c02415209f256a3e75c627e2da85d90d596558"), looks := false }, kinds := [], alts := [], laidByText := true, laidKinds := [.data], laidTests := true, laidLooks := .later }
def FnOrderBytesUptoCardSaid : Prop := Claim7.holds Tryd.pinned (.plain (OpenSpec.upto fnOrderBytesSpec)) fnOrderBytesUptoCard

/-- THE SECOND FORM's CARD OF 'laws.FnDecodeOrder'. -/
def fnDecodeOrderUptoCard : Claim7 := { stood := { row := fnDecodeOrderUptoRow, standIns := [], harness := (true, "27e20f77dd65f4cfae77065058c02415209f256a3e75c627e2da85d90d596558"), looks := false }, kinds := [], alts := [], laidByText := true, laidKinds := [.data], laidTests := true, laidLooks := .later }
def FnDecodeOrderUptoCardSaid : Prop := Claim7.holds Tryd.pinned (.plain (OpenSpec.upto fnDecodeOrderSpec)) fnDecodeOrderUptoCard

/-- THE SECOND FORM's CARD OF 'laws.FnOrderUnique'. -/
def fnOrderUniqueUptoCard : Claim7 := { stood := { row := fnOrderUniqueUptoRow, standIns := [], harness := (true, "27e20f77dd65f4cfae77065058c02415209f256a3e75c627e2da85d90d596558"), looks := false }, kinds := [], alts := [], laidByText := true, laidKinds := [.data], laidTests := true, laidLooks := .later }
def FnOrderUniqueUptoCardSaid : Prop := Claim7.holds Tryd.pinned (.plain (OpenSpec.upto fnOrderUniqueSpec)) fnOrderUniqueUptoCard

/-- THE SECOND FORM's CARD OF 'laws.FnExactOrderLength'. -/
def fnExactOrderLengthUptoCard : Claim7 := { stood := { row := fnExactOrderLengthUptoRow, standIns := [], harness := (true, "27e20f77dd65f4cfae77065058c02415209f256a3e75c627e2da85d90d596558"), looks := false }, kinds := [], alts := [], laidByText := true, laidKinds := [.data], laidTests := true, laidLooks := .later }
def FnExactOrderLengthUptoCardSaid : Prop := Claim7.holds Tryd.pinned (.plain (OpenSpec.upto fnExactOrderLengthSpec)) fnExactOrderLengthUptoCard

/-- THE SECOND FORM's CARD OF 'laws.FnExactOrderValid'. -/
def fnExactOrderValidUptoCard : Claim7 := { stood := { row := fnExactOrderValidUptoRow, standIns := [], harness := (true, "27e20f77dd65f4cfae77065058c02415209f256a3e75c627e2da85d90d596558"), looks := false }, kinds := [], alts := [], laidByText := true, laidKinds := [.data], laidTests := true, laidLooks := .later }
def FnExactOrderValidUptoCardSaid : Prop := Claim7.holds Tryd.pinned (.plain (OpenSpec.upto fnExactOrderValidSpec)) fnExactOrderValidUptoCard

/-- THE SECOND FORM's CARD OF 'laws.FnExactOrderBytes'. -/
def fnExactOrderBytesUptoCard : Claim7 := { stood := { row := fnExactOrderBytesUptoRow, standIns := [], harness := (true, "27e20f77dd65f4cfae77065058c02415209f256a3e75c627e2da85d90d596558"), looks := false }, kinds := [], alts := [], laidByText := true, laidKinds := [.data], laidTests := true, laidLooks := .later }
def FnExactOrderBytesUptoCardSaid : Prop := Claim7.holds Tryd.pinned (.plain (OpenSpec.upto fnExactOrderBytesSpec)) fnExactOrderBytesUptoCard

/-- THE SECOND FORM's CARD OF 'laws.FnExactDecodeOrder'. -/
def fnExactDecodeOrderUptoCard : Claim7 := { stood := { row := fnExactDecodeOrderUptoRow, standIns := [], harness := (true, "27e20f77dd65f4cfae77065058c02415209f256a3e75c627e2da85d90d596558"), looks := false }, kinds := [], alts := [], laidByText := true, laidKinds := [.data], laidTests := true, laidLooks := .later }
def FnExactDecodeOrderUptoCardSaid : Prop := Claim7.holds Tryd.pinned (.plain (OpenSpec.upto fnExactDecodeOrderSpec)) fnExactDecodeOrderUptoCard
end Rows
end Go.Proofs.YthndghhnpnaonaaDoor
