/-
  DERIVED. GIVEN WITH THE SEED: THE CARDS: each row of YtjgnogflgoihfaaGreatDoorRows.lean that lists a variable, with what it lists TIED to the program's text (the seventh form; the later family's looks); each row that meets fmt, with fmt's text TOLD by the authors' own Lean function (tested against real Go, not proved from fmt's source: count such statements apart). THE CARD IS WHAT COUNTS. Prove the row's statement (the work); the ties are given (YtjgnogflgoihfaaGreatDoorTie.lean); close each card by the builder's one call (the guide's Derived/Test/ToyasCard.lean, 'card_holds'). Laid BY PROGRAM, IN A SANDBOX (cutbox-door.mjs). By AI agents, Wed Nov 11 2026. No macro, syntax, notation, axiom, sorry.
-/
import Derived.Test.YtjgnogflgoihfaaGreatDoorRows
import GoSem.ClaimSeven
namespace Go.Proofs.YtjgnogflgoihfaaGreatDoor
namespace Rows

/-- THE TIED CARD OF 'hearthlaw9.ObjectMakes'. -/
def objectMakesCard : Claim7 := { stood := { row := objectMakesRow, standIns := [], harness := (true, "21f85eabea0a442fe824dd3d35f1e0c5749595140571aac9a30922b9fe12dc09"), looks := true }, kinds := [], alts := [], laidByText := true, laidKinds := [.data, .data, .data, .data], laidTests := true, laidLooks := .later }
def ObjectMakesCardSaid : Prop := Claim7.holds Tryz.pinned (.plain (OpenSpec.ofChange objectMakesSpec)) objectMakesCard

/-- THE TIED CARD OF 'hearthlaw9.ObjectFields'. -/
def objectFieldsCard : Claim7 := { stood := { row := objectFieldsRow, standIns := [], harness := (true, "21f85eabea0a442fe824dd3d35f1e0c5749595140571aac9a30922b9fe12dc09"), looks := true }, kinds := [], alts := [], laidByText := true, laidKinds := [.data, .data, .data, .data], laidTests := true, laidLooks := .later }
def ObjectFieldsCardSaid : Prop := Claim7.holds Tryz.pinned (.plain (OpenSpec.ofChange objectFieldsSpec)) objectFieldsCard

/-- THE TIED CARD OF 'hearthlaw9.ObjectRaws'. -/
def objectRawsCard : Claim7 := { stood := { row := objectRawsRow, standIns := [], harness := (true, "21f85eabea0a442fe824dd3d35f1e0c5749595140571aac9a30922b9fe12dc09"), looks := true }, kinds := [], alts := [], laidByText := true, laidKinds := [.data, .data, .data, .data], laidTests := true, laidLooks := .later }
def ObjectRawsCardSaid : Prop := Claim7.holds Tryz.pinned (.plain (OpenSpec.ofChange objectRawsSpec)) objectRawsCard

/-- THE TIED CARD OF 'hearthlaw9.ObjectRights'. -/
def objectRightsCard : Claim7 := { stood := { row := objectRightsRow, standIns := [], harness := (true, "21f85eabea0a442fe824dd3d35f1e0c5749595140571aac9a30922b9fe12dc09"), looks := true }, kinds := [], alts := [], laidByText := true, laidKinds := [.data, .data, .data, .data], laidTests := true, laidLooks := .later }
def ObjectRightsCardSaid : Prop := Claim7.holds Tryz.pinned (.plain (OpenSpec.ofChange objectRightsSpec)) objectRightsCard

/-- THE TIED CARD OF 'hearthlaw9.ObjectAll'. -/
def objectAllCard : Claim7 := { stood := { row := objectAllRow, standIns := [], harness := (true, "21f85eabea0a442fe824dd3d35f1e0c5749595140571aac9a30922b9fe12dc09"), looks := true }, kinds := [], alts := [], laidByText := true, laidKinds := [.data, .data, .data, .data], laidTests := true, laidLooks := .later }
def ObjectAllCardSaid : Prop := Claim7.holds Tryz.pinned (.plain (OpenSpec.ofChange objectAllSpec)) objectAllCard

/-- THE SECOND FORM's CARD OF 'hearthlaw9.ObjectMakes'. -/
def objectMakesUptoCard : Claim7 := { stood := { row := objectMakesUptoRow, standIns := [], harness := (true, "21f85eabea0a442fe824dd3d35f1e0c5749595140571aac9a30922b9fe12dc09"), looks := true }, kinds := [], alts := [], laidByText := true, laidKinds := [.data, .data, .data, .data], laidTests := true, laidLooks := .later }
def ObjectMakesUptoCardSaid : Prop := Claim7.holds Tryz.pinned (.plain (OpenSpec.upto objectMakesSpec)) objectMakesUptoCard

/-- THE SECOND FORM's CARD OF 'hearthlaw9.ObjectFields'. -/
def objectFieldsUptoCard : Claim7 := { stood := { row := objectFieldsUptoRow, standIns := [], harness := (true, "21f85eabea0a442fe824dd3d35f1e0c5749595140571aac9a30922b9fe12dc09"), looks := true }, kinds := [], alts := [], laidByText := true, laidKinds := [.data, .data, .data, .data], laidTests := true, laidLooks := .later }
def ObjectFieldsUptoCardSaid : Prop := Claim7.holds Tryz.pinned (.plain (OpenSpec.upto objectFieldsSpec)) objectFieldsUptoCard

/-- THE SECOND FORM's CARD OF 'hearthlaw9.ObjectRaws'. -/
def objectRawsUptoCard : Claim7 := { stood := { row := objectRawsUptoRow, standIns := [], harness := (true, "21f85eabea0a442fe824dd3d35f1e0c5749595140571aac9a30922b9fe12dc09"), looks := true }, kinds := [], alts := [], laidByText := true, laidKinds := [.data, .data, .data, .data], laidTests := true, laidLooks := .later }
def ObjectRawsUptoCardSaid : Prop := Claim7.holds Tryz.pinned (.plain (OpenSpec.upto objectRawsSpec)) objectRawsUptoCard

/-- THE SECOND FORM's CARD OF 'hearthlaw9.ObjectRights'. -/
def objectRightsUptoCard : Claim7 := { stood := { row := objectRightsUptoRow, standIns := [], harness := (true, "21f85eabea0a442fe824dd3d35f1e0c5749595140571aac9a30922b9fe12dc09"), looks := true }, kinds := [], alts := [], laidByText := true, laidKinds := [.data, .data, .data, .data], laidTests := true, laidLooks := .later }
def ObjectRightsUptoCardSaid : Prop := Claim7.holds Tryz.pinned (.plain (OpenSpec.upto objectRightsSpec)) objectRightsUptoCard

/-- THE SECOND FORM's CARD OF 'hearthlaw9.ObjectAll'. -/
def objectAllUptoCard : Claim7 := { stood := { row := objectAllUptoRow, standIns := [], harness := (true, "21f85eabea0a442fe824dd3d35f1e0c5749595140571aac9a30922b9fe12dc09"), looks := true }, kinds := [], alts := [], laidByText := true, laidKinds := [.data, .data, .data, .data], laidTests := true, laidLooks := .later }
def ObjectAllUptoCardSaid : Prop := Claim7.holds Tryz.pinned (.plain (OpenSpec.upto objectAllSpec)) objectAllUptoCard
end Rows
end Go.Proofs.YtjgnogflgoihfaaGreatDoor
