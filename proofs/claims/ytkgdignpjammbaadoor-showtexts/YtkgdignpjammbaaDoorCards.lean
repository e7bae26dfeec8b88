/-
  DERIVED. GIVEN WITH THE SEED: THE CARDS: each row of YtkgdignpjammbaaDoorRows.lean that lists a variable, with what it lists TIED to the program's text (the seventh form; the later family's looks); each row that meets fmt, with fmt's text TOLD by the authors' own Lean function (tested against real Go, not proved from fmt's source: count such statements apart). THE CARD IS WHAT COUNTS. Prove the row's statement (the work); the ties are given (YtkgdignpjammbaaDoorTie.lean); close each card by the builder's one call (the guide's Derived/Test/ToyasCard.lean, 'card_holds'). Laid BY PROGRAM, IN A SANDBOX (cutbox-door.mjs). By AI agents, Wed Nov 11 2026. No macro, syntax, notation, axiom, sorry.
-/
import Derived.Test.YtkgdignpjammbaaDoorRows
import GoSem.ClaimSeven
namespace Go.Proofs.YtkgdignpjammbaaDoor
namespace Rows

/-- THE TIED CARD OF 'hearthlaw17.ShowFixes'. -/
def showFixesCard : Claim7 := { stood := { row := showFixesRow, standIns := [], harness := (true, "8bc3e083c94ac3bf0d019bb4f1affec96dfb16c41181540c4cf15d343ee7bea1"), looks := false }, kinds := [], alts := [], laidByText := true, laidKinds := [.data, .data, .data, .data, .data, .pinned, .pinned], laidTests := true, laidLooks := .later }
def ShowFixesCardSaid : Prop := Claim7.holds Tryd.pinned (.plain (OpenSpec.ofChange showFixesSpec)) showFixesCard

/-- THE TIED CARD OF 'hearthlaw17.ShowLists'. -/
def showListsCard : Claim7 := { stood := { row := showListsRow, standIns := [], harness := (true, "8bc3e083c94ac3bf0d019bb4f1affec96dfb16c41181540c4cf15d343ee7bea1"), looks := false }, kinds := [], alts := [], laidByText := true, laidKinds := [.data, .data, .data, .data, .data, .pinned, .pinned], laidTests := true, laidLooks := .later }
def ShowListsCardSaid : Prop := Claim7.holds Tryd.pinned (.plain (OpenSpec.ofChange showListsSpec)) showListsCard

/-- THE TIED CARD OF 'hearthlaw17.ShowTexts'. -/
def showTextsCard : Claim7 := { stood := { row := showTextsRow, standIns := [], harness := (true, "8bc3e083c94ac3bf0d019bb4f1affec96dfb16c41181540c4cf15d343ee7bea1"), looks := false }, kinds := [], alts := [], laidByText := true, laidKinds := [.data, .data, .data, .data, .data, .pinned, .pinned], laidTests := true, laidLooks := .later }
def ShowTextsCardSaid : Prop := Claim7.holds Tryd.pinned (.plain (OpenSpec.ofChange showTextsSpec)) showTextsCard

/-- THE TIED CARD OF 'hearthlaw17.ShowLeaves'. -/
def showLeavesCard : Claim7 := { stood := { row := showLeavesRow, standIns := [], harness := (true, "8bc3e083c94ac3bf0d019bb4f1affec96dfb16c41181540c4cf15d343ee7bea1"), looks := false }, kinds := [], alts := [], laidByText := true, laidKinds := [.data, .data, .data, .data, .data, .pinned, .pinned], laidTests := true, laidLooks := .later }
def ShowLeavesCardSaid : Prop := Claim7.holds Tryd.pinned (.plain (OpenSpec.ofChange showLeavesSpec)) showLeavesCard

/-- THE SECOND FORM's CARD OF 'hearthlaw17.ShowFixes'. -/
def showFixesUptoCard : Claim7 := { stood := { row := showFixesUptoRow, standIns := [], harness := (true, "8bc3e083c94ac3bf0d019bb4f1affec96dfb16c41181540c4cf15d343ee7bea1"), looks := false }, kinds := [], alts := [], laidByText := true, laidKinds := [.data, .data, .data, .data, .data, .pinned, .pinned], laidTests := true, laidLooks := .later }
def ShowFixesUptoCardSaid : Prop := Claim7.holds Tryd.pinned (.plain (OpenSpec.upto showFixesSpec)) showFixesUptoCard

/-- THE SECOND FORM's CARD OF 'hearthlaw17.ShowLists'. -/
def showListsUptoCard : Claim7 := { stood := { row := showListsUptoRow, standIns := [], harness := (true, "8bc3e083c94ac3bf0d019bb4f1affec96dfb16c41181540c4cf15d343ee7bea1"), looks := false }, kinds := [], alts := [], laidByText := true, laidKinds := [.data, .data, .data, .data, .data, .pinned, .pinned], laidTests := true, laidLooks := .later }
def ShowListsUptoCardSaid : Prop := Claim7.holds Tryd.pinned (.plain (OpenSpec.upto showListsSpec)) showListsUptoCard

/-- THE SECOND FORM's CARD OF 'hearthlaw17.ShowTexts'. -/
def showTextsUptoCard : Claim7 := { stood := { row := showTextsUptoRow, standIns := [], harness := (true, "8bc3e083c94ac3bf0d019bb4f1affec96dfb16c41181540c4cf15d343ee7bea1"), looks := false }, kinds := [], alts := [], laidByText := true, laidKinds := [.data, .data, .data, .data, .data, .pinned, .pinned], laidTests := true, laidLooks := .later }
def ShowTextsUptoCardSaid : Prop := Claim7.holds Tryd.pinned (.plain (OpenSpec.upto showTextsSpec)) showTextsUptoCard

/-- THE SECOND FORM's CARD OF 'hearthlaw17.ShowLeaves'. -/
def showLeavesUptoCard : Claim7 := { stood := { row := showLeavesUptoRow, standIns := [], harness := (true, "8bc3e083c94ac3bf0d019bb4f1affec96dfb16c41181540c4cf15d343ee7bea1"), looks := false }, kinds := [], alts := [], laidByText := true, laidKinds := [.data, .data, .data, .data, .data, .pinned, .pinned], laidTests := true, laidLooks := .later }
def ShowLeavesUptoCardSaid : Prop := Claim7.holds Tryd.pinned (.plain (OpenSpec.upto showLeavesSpec)) showLeavesUptoCard
end Rows
end Go.Proofs.YtkgdignpjammbaaDoor
