/-
  DERIVED. GIVEN WITH THE SEED: THE CARDS: each row of YtjbbkeoolodeaabGreatDoorRows.lean that lists a variable, with what it lists TIED to the program's text (the seventh form; the later family's looks); each row that meets fmt, with fmt's text TOLD by the authors' own Lean function (tested against real Go, not proved from fmt's source: count such statements apart). THE CARD IS WHAT COUNTS. Prove the row's statement (the work); the ties are given (YtjbbkeoolodeaabGreatDoorTie.lean); close each card by the builder's one call (the guide's Derived/Test/ToyasCard.lean, 'card_holds'). Laid BY PROGRAM, IN A SANDBOX (cutbox-door.mjs). By AI agents, Wed Nov 11 2026. No macro, syntax, notation, axiom, sorry.
-/
import Derived.Test.YtjbbkeoolodeaabGreatDoorRows
import GoSem.ClaimSeven
namespace Go.Proofs.YtjbbkeoolodeaabGreatDoor
namespace Rows

/-- THE TIED CARD OF 'hearthlaw8.SpaceDumps'. -/
def spaceDumpsCard : Claim7 := { stood := { row := spaceDumpsRow, standIns := [], harness := (true, "1fc16d0bfa25effc10bb8ce54dbcf80e1274577e9c8e7b2bcbf75dfe27f2f613"), looks := false }, kinds := [], alts := [], laidByText := true, laidKinds := [.data, .data, .data, .data], laidTests := true, laidLooks := .later }
def SpaceDumpsCardSaid : Prop := Claim7.holds Tryz.pinned (.plain (OpenSpec.ofChange spaceDumpsSpec)) spaceDumpsCard

/-- THE TIED CARD OF 'hearthlaw8.SpaceAll'. -/
def spaceAllCard : Claim7 := { stood := { row := spaceAllRow, standIns := [], harness := (true, "1fc16d0bfa25effc10bb8ce54dbcf80e1274577e9c8e7b2bcbf75dfe27f2f613"), looks := false }, kinds := [], alts := [], laidByText := true, laidKinds := [.data, .data, .data, .data], laidTests := true, laidLooks := .later }
def SpaceAllCardSaid : Prop := Claim7.holds Tryz.pinned (.plain (OpenSpec.ofChange spaceAllSpec)) spaceAllCard

/-- THE SECOND FORM's CARD OF 'hearthlaw8.SpaceDumps'. -/
def spaceDumpsUptoCard : Claim7 := { stood := { row := spaceDumpsUptoRow, standIns := [], harness := (true, "1fc16d0bfa25effc10bb8ce54dbcf80e1274577e9c8e7b2bcbf75dfe27f2f613"), looks := false }, kinds := [], alts := [], laidByText := true, laidKinds := [.data, .data, .data, .data], laidTests := true, laidLooks := .later }
def SpaceDumpsUptoCardSaid : Prop := Claim7.holds Tryz.pinned (.plain (OpenSpec.upto spaceDumpsSpec)) spaceDumpsUptoCard

/-- THE SECOND FORM's CARD OF 'hearthlaw8.SpaceAll'. -/
def spaceAllUptoCard : Claim7 := { stood := { row := spaceAllUptoRow, standIns := [], harness := (true, "1fc16d0bfa25effc10bb8ce54dbcf80e1274577e9c8e7b2bcbf75dfe27f2f613"), looks := false }, kinds := [], alts := [], laidByText := true, laidKinds := [.data, .data, .data, .data], laidTests := true, laidLooks := .later }
def SpaceAllUptoCardSaid : Prop := Claim7.holds Tryz.pinned (.plain (OpenSpec.upto spaceAllSpec)) spaceAllUptoCard
end Rows
end Go.Proofs.YtjbbkeoolodeaabGreatDoor
