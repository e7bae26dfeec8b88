/-
  DERIVED. GIVEN WITH THE SEED: THE CARDS: each row of YtjbbkeoolodeaacDoorRows.lean that lists a variable, with what it lists TIED to the program's text (the seventh form; the later family's looks); each row that meets fmt, with fmt's text TOLD by the authors' own Lean function (tested against real Go, not proved from fmt's source: count such statements apart). THE CARD IS WHAT COUNTS. Prove the row's statement (the work); the ties are given (YtjbbkeoolodeaacDoorTie.lean); close each card by the builder's one call (the guide's Derived/Test/ToyasCard.lean, 'card_holds'). Laid BY PROGRAM, IN A SANDBOX (cutbox-door.mjs). By AI agents, Wed Nov 11 2026. No macro, syntax, notation, axiom, sorry.
-/
import Derived.Test.YtjbbkeoolodeaacDoorRows
import GoSem.ClaimSeven
namespace Go.Proofs.YtjbbkeoolodeaacDoor
namespace Rows

/-- THE TIED CARD OF 'hearthlaw8.SpaceTrue'. -/
def spaceTrueCard : Claim7 := { stood := { row := spaceTrueRow, standIns := [], harness := (true, "34752d9c10a71496fc050b9277070598596b4570143edd233362fcaf19bcf3c6"), looks := false }, kinds := [], alts := [], laidByText := true, laidKinds := [.data, .data, .data, .data], laidTests := true, laidLooks := .later }
def SpaceTrueCardSaid : Prop := Claim7.holds Tryd.pinned (.plain (OpenSpec.ofChange spaceTrueSpec)) spaceTrueCard

/-- THE TIED CARD OF 'hearthlaw8.SpaceFills'. -/
def spaceFillsCard : Claim7 := { stood := { row := spaceFillsRow, standIns := [], harness := (true, "34752d9c10a71496fc050b9277070598596b4570143edd233362fcaf19bcf3c6"), looks := false }, kinds := [], alts := [], laidByText := true, laidKinds := [.data, .data, .data, .data], laidTests := true, laidLooks := .later }
def SpaceFillsCardSaid : Prop := Claim7.holds Tryd.pinned (.plain (OpenSpec.ofChange spaceFillsSpec)) spaceFillsCard

/-- THE SECOND FORM's CARD OF 'hearthlaw8.SpaceTrue'. -/
def spaceTrueUptoCard : Claim7 := { stood := { row := spaceTrueUptoRow, standIns := [], harness := (true, "34752d9c10a71496fc050b9277070598596b4570143edd233362fcaf19bcf3c6"), looks := false }, kinds := [], alts := [], laidByText := true, laidKinds := [.data, .data, .data, .data], laidTests := true, laidLooks := .later }
def SpaceTrueUptoCardSaid : Prop := Claim7.holds Tryd.pinned (.plain (OpenSpec.upto spaceTrueSpec)) spaceTrueUptoCard

/-- THE SECOND FORM's CARD OF 'hearthlaw8.SpaceFills'. -/
def spaceFillsUptoCard : Claim7 := { stood := { row := spaceFillsUptoRow, standIns := [], harness := (true, "34752d9c10a71496fc050b9277070598596b4570143edd233362fcaf19bcf3c6"), looks := false }, kinds := [], alts := [], laidByText := true, laidKinds := [.data, .data, .data, .data], laidTests := true, laidLooks := .later }
def SpaceFillsUptoCardSaid : Prop := Claim7.holds Tryd.pinned (.plain (OpenSpec.upto spaceFillsSpec)) spaceFillsUptoCard
end Rows
end Go.Proofs.YtjbbkeoolodeaacDoor
