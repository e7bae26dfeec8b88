/-
  DERIVED. GIVEN WITH THE SEED: THE CARDS: each row of YtocncffplcfpbaaGreatDoorRows.lean that lists a variable, with what it lists TIED to the program's text (the seventh form; the later family's looks); each row that meets fmt, with fmt's text TOLD by the authors' own Lean function (tested against real Go, not proved from fmt's source: count such statements apart). THE CARD IS WHAT COUNTS. Prove the row's statement (the work); the ties are given (YtocncffplcfpbaaGreatDoorTie.lean); close each card by the builder's one call (the guide's Derived/Test/ToyasCard.lean, 'card_holds'). Laid BY PROGRAM, IN A SANDBOX (cutbox-door.mjs). By AI agents, Wed Nov 11 2026. No macro, syntax, notation, axiom, sorry.
-/
import Derived.Test.YtocncffplcfpbaaGreatDoorRows
import GoSem.ClaimSeven
namespace Go.Proofs.YtocncffplcfpbaaGreatDoor
namespace Rows

/-- THE TIED CARD OF 'hearthlaw10.GraphDeep'. -/
def graphDeepCard : Claim7 := { stood := { row := graphDeepRow, standIns := [], harness := (true, "da341fb50ebf0bf29b98f5c3b3b09ed45c1663d83d98d056bd99aa04682ddf3c"), looks := false }, kinds := [], alts := [], laidByText := true, laidKinds := [.data, .data], laidTests := true, laidLooks := .later }
def GraphDeepCardSaid : Prop := Claim7.holds Tryz.pinned (.plain (OpenSpec.ofChange graphDeepSpec)) graphDeepCard

/-- THE SECOND FORM's CARD OF 'hearthlaw10.GraphDeep'. -/
def graphDeepUptoCard : Claim7 := { stood := { row := graphDeepUptoRow, standIns := [], harness := (true, "da341fb50ebf0bf29b98f5c3b3b09ed45c1663d83d98d056bd99aa04682ddf3c"), looks := false }, kinds := [], alts := [], laidByText := true, laidKinds := [.data, .data], laidTests := true, laidLooks := .later }
def GraphDeepUptoCardSaid : Prop := Claim7.holds Tryz.pinned (.plain (OpenSpec.upto graphDeepSpec)) graphDeepUptoCard
end Rows
end Go.Proofs.YtocncffplcfpbaaGreatDoor
