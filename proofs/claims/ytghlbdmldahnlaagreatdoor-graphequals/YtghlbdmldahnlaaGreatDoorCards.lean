/-
  DERIVED. GIVEN WITH THE SEED: THE CARDS: each row of YtghlbdmldahnlaaGreatDoorRows.lean that lists a variable, with what it lists TIED to the program's text (the seventh form; the later family's looks); each row that meets fmt, with fmt's text TOLD by the authors' own Lean function (tested against real Go, not proved from fmt's source: count such statements apart). THE CARD IS WHAT COUNTS. Prove the row's statement (the work); the ties are given (YtghlbdmldahnlaaGreatDoorTie.lean); close each card by the builder's one call (the guide's Derived/Test/ToyasCard.lean, 'card_holds'). Laid BY PROGRAM, IN A SANDBOX (cutbox-door.mjs). By AI agents, Wed Nov 11 2026. No macro, syntax, notation, axiom, sorry.
-/
import Derived.Test.YtghlbdmldahnlaaGreatDoorRows
import GoSem.ClaimSeven
namespace Go.Proofs.YtghlbdmldahnlaaGreatDoor
namespace Rows

/-- THE TIED CARD OF 'hearthlaw10.GraphEquals'. -/
def graphEqualsCard : Claim7 := { stood := { row := graphEqualsRow, standIns := [], harness := (true, "ed6d38591496a20cc3c983daf84c0848f3df6f9684e2353cba0b915cfa101976"), looks := false }, kinds := [], alts := [], laidByText := true, laidKinds := [.data, .data], laidTests := true, laidLooks := .later }
def GraphEqualsCardSaid : Prop := Claim7.holds Tryz.pinned (.plain (OpenSpec.ofChange graphEqualsSpec)) graphEqualsCard

/-- THE SECOND FORM's CARD OF 'hearthlaw10.GraphEquals'. -/
def graphEqualsUptoCard : Claim7 := { stood := { row := graphEqualsUptoRow, standIns := [], harness := (true, "ed6d38591496a20cc3c983daf84c0848f3df6f9684e2353cba0b915cfa101976"), looks := false }, kinds := [], alts := [], laidByText := true, laidKinds := [.data, .data], laidTests := true, laidLooks := .later }
def GraphEqualsUptoCardSaid : Prop := Claim7.holds Tryz.pinned (.plain (OpenSpec.upto graphEqualsSpec)) graphEqualsUptoCard
end Rows
end Go.Proofs.YtghlbdmldahnlaaGreatDoor
