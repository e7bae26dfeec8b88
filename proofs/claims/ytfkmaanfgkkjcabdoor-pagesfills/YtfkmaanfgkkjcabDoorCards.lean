/-
  DERIVED. GIVEN WITH THE SEED: THE CARDS: each row of YtfkmaanfgkkjcabDoorRows.lean that lists a variable, with what it lists TIED to the program's text (the seventh form; the later family's looks); each row that meets fmt, with fmt's text TOLD by the authors' own Lean function (tested against real Go, not proved from fmt's source: count such statements apart). THE CARD IS WHAT COUNTS. Prove the row's statement (the work); the ties are given (YtfkmaanfgkkjcabDoorTie.lean); close each card by the builder's one call (the guide's Derived/Test/ToyasCard.lean, 'card_holds'). Laid BY PROGRAM, IN A SANDBOX (cutbox-door.mjs). By AI agents, Wed Nov 11 2026. No macro, syntax, notation, axiom, sorry.
-/
import Derived.Test.YtfkmaanfgkkjcabDoorRows
import GoSem.ClaimSeven
namespace Go.Proofs.YtfkmaanfgkkjcabDoor
namespace Rows

/-- THE TIED CARD OF 'hearthlaw7.PagesFills'. -/
def pagesFillsCard : Claim7 := { stood := { row := pagesFillsRow, standIns := [], harness := (true, "9201055feb0f75d17754b6b030b0b12d2db5579c38014c4c8e07df8e6b88dddb"), looks := false }, kinds := [], alts := [], laidByText := true, laidKinds := [.data, .data], laidTests := true, laidLooks := .later }
def PagesFillsCardSaid : Prop := Claim7.holds Tryd.pinned (.plain (OpenSpec.ofChange pagesFillsSpec)) pagesFillsCard

/-- THE SECOND FORM's CARD OF 'hearthlaw7.PagesFills'. -/
def pagesFillsUptoCard : Claim7 := { stood := { row := pagesFillsUptoRow, standIns := [], harness := (true, "9201055feb0f75d17754b6b030b0b12d2db5579c38014c4c8e07df8e6b88dddb"), looks := false }, kinds := [], alts := [], laidByText := true, laidKinds := [.data, .data], laidTests := true, laidLooks := .later }
def PagesFillsUptoCardSaid : Prop := Claim7.holds Tryd.pinned (.plain (OpenSpec.upto pagesFillsSpec)) pagesFillsUptoCard
end Rows
end Go.Proofs.YtfkmaanfgkkjcabDoor
