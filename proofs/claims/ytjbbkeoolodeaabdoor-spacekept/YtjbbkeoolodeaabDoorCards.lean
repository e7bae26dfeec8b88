/-
  DERIVED. GIVEN WITH THE SEED: THE CARDS: each row of YtjbbkeoolodeaabDoorRows.lean that lists a variable, with what it lists TIED to the program's text (the seventh form; the later family's looks); each row that meets fmt, with fmt's text TOLD by the authors' own Lean function (tested against real Go, not proved from fmt's source: count such statements apart). THE CARD IS WHAT COUNTS. Prove the row's statement (the work); the ties are given (YtjbbkeoolodeaabDoorTie.lean); close each card by the builder's one call (the guide's Derived/Test/ToyasCard.lean, 'card_holds'). Laid BY PROGRAM, IN A SANDBOX (cutbox-door.mjs). By AI agents, Wed Nov 11 2026. No macro, syntax, notation, axiom, sorry.
-/
import Derived.Test.YtjbbkeoolodeaabDoorRows
import GoSem.ClaimSeven
namespace Go.Proofs.YtjbbkeoolodeaabDoor
namespace Rows

/-- THE TIED CARD OF 'hearthlaw8.SpaceApart'. -/
def spaceApartCard : Claim7 := { stood := { row := spaceApartRow, standIns := [], harness := (true, "ff2bd4fccc9301a6f68f243d27ddda1a3567941045ab8edc0ac12bc5c969125f"), looks := false }, kinds := [], alts := [], laidByText := true, laidKinds := [.data, .data, .data, .data], laidTests := true, laidLooks := .later }
def SpaceApartCardSaid : Prop := Claim7.holds Tryd.pinned (.plain (OpenSpec.ofChange spaceApartSpec)) spaceApartCard

/-- THE TIED CARD OF 'hearthlaw8.SpaceLow'. -/
def spaceLowCard : Claim7 := { stood := { row := spaceLowRow, standIns := [], harness := (true, "ff2bd4fccc9301a6f68f243d27ddda1a3567941045ab8edc0ac12bc5c969125f"), looks := false }, kinds := [], alts := [], laidByText := true, laidKinds := [.data, .data, .data, .data], laidTests := true, laidLooks := .later }
def SpaceLowCardSaid : Prop := Claim7.holds Tryd.pinned (.plain (OpenSpec.ofChange spaceLowSpec)) spaceLowCard

/-- THE TIED CARD OF 'hearthlaw8.SpaceKept'. -/
def spaceKeptCard : Claim7 := { stood := { row := spaceKeptRow, standIns := [], harness := (true, "ff2bd4fccc9301a6f68f243d27ddda1a3567941045ab8edc0ac12bc5c969125f"), looks := false }, kinds := [], alts := [], laidByText := true, laidKinds := [.data, .data, .data, .data], laidTests := true, laidLooks := .later }
def SpaceKeptCardSaid : Prop := Claim7.holds Tryd.pinned (.plain (OpenSpec.ofChange spaceKeptSpec)) spaceKeptCard

/-- THE TIED CARD OF 'hearthlaw8.SpaceTold'. -/
def spaceToldCard : Claim7 := { stood := { row := spaceToldRow, standIns := [], harness := (true, "ff2bd4fccc9301a6f68f243d27ddda1a3567941045ab8edc0ac12bc5c969125f"), looks := false }, kinds := [], alts := [], laidByText := true, laidKinds := [.data, .data, .data, .data], laidTests := true, laidLooks := .later }
def SpaceToldCardSaid : Prop := Claim7.holds Tryd.pinned (.plain (OpenSpec.ofChange spaceToldSpec)) spaceToldCard

/-- THE SECOND FORM's CARD OF 'hearthlaw8.SpaceApart'. -/
def spaceApartUptoCard : Claim7 := { stood := { row := spaceApartUptoRow, standIns := [], harness := (true, "ff2bd4fccc9301a6f68f243d27ddda1a3567941045ab8edc0ac12bc5c969125f"), looks := false }, kinds := [], alts := [], laidByText := true, laidKinds := [.data, .data, .data, .data], laidTests := true, laidLooks := .later }
def SpaceApartUptoCardSaid : Prop := Claim7.holds Tryd.pinned (.plain (OpenSpec.upto spaceApartSpec)) spaceApartUptoCard

/-- THE SECOND FORM's CARD OF 'hearthlaw8.SpaceLow'. -/
def spaceLowUptoCard : Claim7 := { stood := { row := spaceLowUptoRow, standIns := [], harness := (true, "ff2bd4fccc9301a6f68f243d27ddda1a3567941045ab8edc0ac12bc5c969125f"), looks := false }, kinds := [], alts := [], laidByText := true, laidKinds := [.data, .data, .data, .data], laidTests := true, laidLooks := .later }
def SpaceLowUptoCardSaid : Prop := Claim7.holds Tryd.pinned (.plain (OpenSpec.upto spaceLowSpec)) spaceLowUptoCard

/-- THE SECOND FORM's CARD OF 'hearthlaw8.SpaceKept'. -/
def spaceKeptUptoCard : Claim7 := { stood := { row := spaceKeptUptoRow, standIns := [], harness := (true, "ff2bd4fccc9301a6f68f243d27ddda1a3567941045ab8edc0ac12bc5c969125f"), looks := false }, kinds := [], alts := [], laidByText := true, laidKinds := [.data, .data, .data, .data], laidTests := true, laidLooks := .later }
def SpaceKeptUptoCardSaid : Prop := Claim7.holds Tryd.pinned (.plain (OpenSpec.upto spaceKeptSpec)) spaceKeptUptoCard

/-- THE SECOND FORM's CARD OF 'hearthlaw8.SpaceTold'. -/
def spaceToldUptoCard : Claim7 := { stood := { row := spaceToldUptoRow, standIns := [], harness := (true, "ff2bd4fccc9301a6f68f243d27ddda1a3567941045ab8edc0ac12bc5c969125f"), looks := false }, kinds := [], alts := [], laidByText := true, laidKinds := [.data, .data, .data, .data], laidTests := true, laidLooks := .later }
def SpaceToldUptoCardSaid : Prop := Claim7.holds Tryd.pinned (.plain (OpenSpec.upto spaceToldSpec)) spaceToldUptoCard
end Rows
end Go.Proofs.YtjbbkeoolodeaabDoor
