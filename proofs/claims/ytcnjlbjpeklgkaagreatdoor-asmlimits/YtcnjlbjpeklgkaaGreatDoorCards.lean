/-
  DERIVED. GIVEN WITH THE SEED: THE CARDS: each row of YtcnjlbjpeklgkaaGreatDoorRows.lean that lists a variable, with what it lists TIED to the program's text (the seventh form; the later family's looks); each row that meets fmt, with fmt's text TOLD by the authors' own Lean function (tested against real Go, not proved from fmt's source: count such statements apart). THE CARD IS WHAT COUNTS. Prove the row's statement (the work); the ties are given (YtcnjlbjpeklgkaaGreatDoorTie.lean); close each card by the builder's one call (the guide's Derived/Test/ToyasCard.lean, 'card_holds'). Laid BY PROGRAM, IN A SANDBOX (cutbox-door.mjs). By AI agents, Wed Nov 11 2026. No macro, syntax, notation, axiom, sorry.
-/
import Derived.Test.YtcnjlbjpeklgkaaGreatDoorRows
import GoSem.ClaimSeven
namespace Go.Proofs.YtcnjlbjpeklgkaaGreatDoor
namespace Rows

/-- THE TIED CARD OF 'hearthlaw25.AsmAssembles'. -/
def asmAssemblesCard : Claim7 := { stood := { row := asmAssemblesRow, standIns := [], harness := (true, "7c9c711e32650f81e109c944570060cbf244133eb87013c81a66673de289f910"), looks := true }, kinds := [], alts := [], laidByText := true, laidKinds := [.data, .data, .data, .data, .handle, .data, .data, .pinned], laidTests := true, laidLooks := .later }
def AsmAssemblesCardSaid : Prop := Claim7.holds Tryz.pinned (.plain (OpenSpec.ofChange asmAssemblesSpec)) asmAssemblesCard

/-- THE TIED CARD OF 'hearthlaw25.AsmPrints'. -/
def asmPrintsCard : Claim7 := { stood := { row := asmPrintsRow, standIns := [], harness := (true, "7c9c711e32650f81e109c944570060cbf244133eb87013c81a66673de289f910"), looks := true }, kinds := [], alts := [], laidByText := true, laidKinds := [.data, .data, .data, .data, .handle, .data, .data, .pinned], laidTests := true, laidLooks := .later }
def AsmPrintsCardSaid : Prop := Claim7.holds Tryz.pinned (.plain (OpenSpec.ofChange asmPrintsSpec)) asmPrintsCard

/-- THE TIED CARD OF 'hearthlaw25.AsmAll'. -/
def asmAllCard : Claim7 := { stood := { row := asmAllRow, standIns := [], harness := (true, "7c9c711e32650f81e109c944570060cbf244133eb87013c81a66673de289f910"), looks := true }, kinds := [], alts := [], laidByText := true, laidKinds := [.data, .data, .data, .data, .handle, .data, .data, .pinned], laidTests := true, laidLooks := .later }
def AsmAllCardSaid : Prop := Claim7.holds Tryz.pinned (.plain (OpenSpec.ofChange asmAllSpec)) asmAllCard

/-- THE TIED CARD OF 'hearthlaw25.AsmBack'. -/
def asmBackCard : Claim7 := { stood := { row := asmBackRow, standIns := [], harness := (true, "7c9c711e32650f81e109c944570060cbf244133eb87013c81a66673de289f910"), looks := true }, kinds := [], alts := [], laidByText := true, laidKinds := [.data, .data, .data, .data, .handle, .data, .data, .pinned], laidTests := true, laidLooks := .later }
def AsmBackCardSaid : Prop := Claim7.holds Tryz.pinned (.plain (OpenSpec.ofChange asmBackSpec)) asmBackCard

/-- THE TIED CARD OF 'hearthlaw25.AsmOneForm'. -/
def asmOneFormCard : Claim7 := { stood := { row := asmOneFormRow, standIns := [], harness := (true, "7c9c711e32650f81e109c944570060cbf244133eb87013c81a66673de289f910"), looks := true }, kinds := [], alts := [], laidByText := true, laidKinds := [.data, .data, .data, .data, .handle, .data, .data, .pinned], laidTests := true, laidLooks := .later }
def AsmOneFormCardSaid : Prop := Claim7.holds Tryz.pinned (.plain (OpenSpec.ofChange asmOneFormSpec)) asmOneFormCard

/-- THE TIED CARD OF 'hearthlaw25.AsmSpaces'. -/
def asmSpacesCard : Claim7 := { stood := { row := asmSpacesRow, standIns := [], harness := (true, "7c9c711e32650f81e109c944570060cbf244133eb87013c81a66673de289f910"), looks := true }, kinds := [], alts := [], laidByText := true, laidKinds := [.data, .data, .data, .data, .handle, .data, .data, .pinned], laidTests := true, laidLooks := .later }
def AsmSpacesCardSaid : Prop := Claim7.holds Tryz.pinned (.plain (OpenSpec.ofChange asmSpacesSpec)) asmSpacesCard

/-- THE TIED CARD OF 'hearthlaw25.AsmLine'. -/
def asmLineCard : Claim7 := { stood := { row := asmLineRow, standIns := [], harness := (true, "7c9c711e32650f81e109c944570060cbf244133eb87013c81a66673de289f910"), looks := true }, kinds := [], alts := [], laidByText := true, laidKinds := [.data, .data, .data, .data, .handle, .data, .data, .pinned], laidTests := true, laidLooks := .later }
def AsmLineCardSaid : Prop := Claim7.holds Tryz.pinned (.plain (OpenSpec.ofChange asmLineSpec)) asmLineCard

/-- THE TIED CARD OF 'hearthlaw25.AsmLabels'. -/
def asmLabelsCard : Claim7 := { stood := { row := asmLabelsRow, standIns := [], harness := (true, "7c9c711e32650f81e109c944570060cbf244133eb87013c81a66673de289f910"), looks := true }, kinds := [], alts := [], laidByText := true, laidKinds := [.data, .data, .data, .data, .handle, .data, .data, .pinned], laidTests := true, laidLooks := .later }
def AsmLabelsCardSaid : Prop := Claim7.holds Tryz.pinned (.plain (OpenSpec.ofChange asmLabelsSpec)) asmLabelsCard

/-- THE TIED CARD OF 'hearthlaw25.AsmQuotes'. -/
def asmQuotesCard : Claim7 := { stood := { row := asmQuotesRow, standIns := [], harness := (true, "7c9c711e32650f81e109c944570060cbf244133eb87013c81a66673de289f910"), looks := true }, kinds := [], alts := [], laidByText := true, laidKinds := [.data, .data, .data, .data, .handle, .data, .data, .pinned], laidTests := true, laidLooks := .later }
def AsmQuotesCardSaid : Prop := Claim7.holds Tryz.pinned (.plain (OpenSpec.ofChange asmQuotesSpec)) asmQuotesCard

/-- THE TIED CARD OF 'hearthlaw25.AsmLimits'. -/
def asmLimitsCard : Claim7 := { stood := { row := asmLimitsRow, standIns := [], harness := (true, "7c9c711e32650f81e109c944570060cbf244133eb87013c81a66673de289f910"), looks := true }, kinds := [], alts := [], laidByText := true, laidKinds := [.data, .data, .data, .data, .handle, .data, .data, .pinned], laidTests := true, laidLooks := .later }
def AsmLimitsCardSaid : Prop := Claim7.holds Tryz.pinned (.plain (OpenSpec.ofChange asmLimitsSpec)) asmLimitsCard

/-- THE SECOND FORM's CARD OF 'hearthlaw25.AsmAssembles'. -/
def asmAssemblesUptoCard : Claim7 := { stood := { row := asmAssemblesUptoRow, standIns := [], harness := (true, "7c9c711e32650f81e109c944570060cbf244133eb87013c81a66673de289f910"), looks := true }, kinds := [], alts := [], laidByText := true, laidKinds := [.data, .data, .data, .data, .handle, .data, .data, .pinned], laidTests := true, laidLooks := .later }
def AsmAssemblesUptoCardSaid : Prop := Claim7.holds Tryz.pinned (.plain (OpenSpec.upto asmAssemblesSpec)) asmAssemblesUptoCard

/-- THE SECOND FORM's CARD OF 'hearthlaw25.AsmPrints'. -/
def asmPrintsUptoCard : Claim7 := { stood := { row := asmPrintsUptoRow, standIns := [], harness := (true, "7c9c711e32650f81e109c944570060cbf244133eb87013c81a66673de289f910"), looks := true }, kinds := [], alts := [], laidByText := true, laidKinds := [.data, .data, .data, .data, .handle, .data, .data, .pinned], laidTests := true, laidLooks := .later }
def AsmPrintsUptoCardSaid : Prop := Claim7.holds Tryz.pinned (.plain (OpenSpec.upto asmPrintsSpec)) asmPrintsUptoCard

/-- THE SECOND FORM's CARD OF 'hearthlaw25.AsmAll'. -/
def asmAllUptoCard : Claim7 := { stood := { row := asmAllUptoRow, standIns := [], harness := (true, "7c9c711e32650f81e109c944570060cbf244133eb87013c81a66673de289f910"), looks := true }, kinds := [], alts := [], laidByText := true, laidKinds := [.data, .data, .data, .data, .handle, .data, .data, .pinned], laidTests := true, laidLooks := .later }
def AsmAllUptoCardSaid : Prop := Claim7.holds Tryz.pinned (.plain (OpenSpec.upto asmAllSpec)) asmAllUptoCard

/-- THE SECOND FORM's CARD OF 'hearthlaw25.AsmBack'. -/
def asmBackUptoCard : Claim7 := { stood := { row := asmBackUptoRow, standIns := [], harness := (true, "7c9c711e32650f81e109c944570060cbf244133eb87013c81a66673de289f910"), looks := true }, kinds := [], alts := [], laidByText := true, laidKinds := [.data, .data, .data, .data, .handle, .data, .data, .pinned], laidTests := true, laidLooks := .later }
def AsmBackUptoCardSaid : Prop := Claim7.holds Tryz.pinned (.plain (OpenSpec.upto asmBackSpec)) asmBackUptoCard

/-- THE SECOND FORM's CARD OF 'hearthlaw25.AsmOneForm'. -/
def asmOneFormUptoCard : Claim7 := { stood := { row := asmOneFormUptoRow, standIns := [], harness := (true, "7c9c711e32650f81e109c944570060cbf244133eb87013c81a66673de289f910"), looks := true }, kinds := [], alts := [], laidByText := true, laidKinds := [.data, .data, .data, .data, .handle, .data, .data, .pinned], laidTests := true, laidLooks := .later }
def AsmOneFormUptoCardSaid : Prop := Claim7.holds Tryz.pinned (.plain (OpenSpec.upto asmOneFormSpec)) asmOneFormUptoCard

/-- THE SECOND FORM's CARD OF 'hearthlaw25.AsmSpaces'. -/
def asmSpacesUptoCard : Claim7 := { stood := { row := asmSpacesUptoRow, standIns := [], harness := (true, "7c9c711e32650f81e109c944570060cbf244133eb87013c81a66673de289f910"), looks := true }, kinds := [], alts := [], laidByText := true, laidKinds := [.data, .data, .data, .data, .handle, .data, .data, .pinned], laidTests := true, laidLooks := .later }
def AsmSpacesUptoCardSaid : Prop := Claim7.holds Tryz.pinned (.plain (OpenSpec.upto asmSpacesSpec)) asmSpacesUptoCard

/-- THE SECOND FORM's CARD OF 'hearthlaw25.AsmLine'. -/
def asmLineUptoCard : Claim7 := { stood := { row := asmLineUptoRow, standIns := [], harness := (true, "7c9c711e32650f81e109c944570060cbf244133eb87013c81a66673de289f910"), looks := true }, kinds := [], alts := [], laidByText := true, laidKinds := [.data, .data, .data, .data, .handle, .data, .data, .pinned], laidTests := true, laidLooks := .later }
def AsmLineUptoCardSaid : Prop := Claim7.holds Tryz.pinned (.plain (OpenSpec.upto asmLineSpec)) asmLineUptoCard

/-- THE SECOND FORM's CARD OF 'hearthlaw25.AsmLabels'. -/
def asmLabelsUptoCard : Claim7 := { stood := { row := asmLabelsUptoRow, standIns := [], harness := (true, "7c9c711e32650f81e109c944570060cbf244133eb87013c81a66673de289f910"), looks := true }, kinds := [], alts := [], laidByText := true, laidKinds := [.data, .data, .data, .data, .handle, .data, .data, .pinned], laidTests := true, laidLooks := .later }
def AsmLabelsUptoCardSaid : Prop := Claim7.holds Tryz.pinned (.plain (OpenSpec.upto asmLabelsSpec)) asmLabelsUptoCard

/-- THE SECOND FORM's CARD OF 'hearthlaw25.AsmQuotes'. -/
def asmQuotesUptoCard : Claim7 := { stood := { row := asmQuotesUptoRow, standIns := [], harness := (true, "7c9c711e32650f81e109c944570060cbf244133eb87013c81a66673de289f910"), looks := true }, kinds := [], alts := [], laidByText := true, laidKinds := [.data, .data, .data, .data, .handle, .data, .data, .pinned], laidTests := true, laidLooks := .later }
def AsmQuotesUptoCardSaid : Prop := Claim7.holds Tryz.pinned (.plain (OpenSpec.upto asmQuotesSpec)) asmQuotesUptoCard

/-- THE SECOND FORM's CARD OF 'hearthlaw25.AsmLimits'. -/
def asmLimitsUptoCard : Claim7 := { stood := { row := asmLimitsUptoRow, standIns := [], harness := (true, "7c9c711e32650f81e109c944570060cbf244133eb87013c81a66673de289f910"), looks := true }, kinds := [], alts := [], laidByText := true, laidKinds := [.data, .data, .data, .data, .handle, .data, .data, .pinned], laidTests := true, laidLooks := .later }
def AsmLimitsUptoCardSaid : Prop := Claim7.holds Tryz.pinned (.plain (OpenSpec.upto asmLimitsSpec)) asmLimitsUptoCard
end Rows
end Go.Proofs.YtcnjlbjpeklgkaaGreatDoor
