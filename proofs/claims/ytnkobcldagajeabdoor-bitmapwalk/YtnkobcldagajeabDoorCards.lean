/-
  DERIVED. GIVEN WITH THE SEED: THE CARDS: each row of YtnkobcldagajeabDoorRows.lean that lists a variable, with what it lists TIED to the program's text (the seventh form; the later family's looks); each row that meets fmt, with fmt's text TOLD by the authors' own Lean function (tested against real Go, not proved from fmt's source: count such statements apart). THE CARD IS WHAT COUNTS. Prove the row's statement (the work); the ties are given (YtnkobcldagajeabDoorTie.lean); close each card by the builder's one call (the guide's Derived/Test/ToyasCard.lean, 'card_holds'). Laid BY PROGRAM, IN A SANDBOX (cutbox-door.mjs). By AI agents, Wed Nov 11 2026. No macro, syntax, notation, axiom, sorry.
-/
import Derived.Test.YtnkobcldagajeabDoorRows
import GoSem.ClaimSeven
namespace Go.Proofs.YtnkobcldagajeabDoor
namespace Rows

/-- THE TIED CARD OF 'hearthlaw3.BitmapParts'. -/
def bitmapPartsCard : Claim7 := { stood := { row := bitmapPartsRow, standIns := [], harness := (true, "1b3c0876e991e43fe6dfc5f29e841074561da3120470ae124b27c0a000ab4120"), looks := false }, kinds := [], alts := [], laidByText := true, laidKinds := [.data], laidTests := true, laidLooks := .later }
def BitmapPartsCardSaid : Prop := Claim7.holds Tryd.pinned (.plain (OpenSpec.ofChange bitmapPartsSpec)) bitmapPartsCard

/-- THE TIED CARD OF 'hearthlaw3.BitmapWalk'. -/
def bitmapWalkCard : Claim7 := { stood := { row := bitmapWalkRow, standIns := [], harness := (true, "1b3c0876e991e43fe6dfc5f29e841074561da3120470ae124b27c0a000ab4120"), looks := false }, kinds := [], alts := [], laidByText := true, laidKinds := [.data], laidTests := true, laidLooks := .later }
def BitmapWalkCardSaid : Prop := Claim7.holds Tryd.pinned (.plain (OpenSpec.ofChange bitmapWalkSpec)) bitmapWalkCard

/-- THE TIED CARD OF 'hearthlaw3.BitmapGaps'. -/
def bitmapGapsCard : Claim7 := { stood := { row := bitmapGapsRow, standIns := [], harness := (true, "1b3c0876e991e43fe6dfc5f29e841074561da3120470ae124b27c0a000ab4120"), looks := false }, kinds := [], alts := [], laidByText := true, laidKinds := [.data], laidTests := true, laidLooks := .later }
def BitmapGapsCardSaid : Prop := Claim7.holds Tryd.pinned (.plain (OpenSpec.ofChange bitmapGapsSpec)) bitmapGapsCard

/-- THE TIED CARD OF 'hearthlaw3.BitmapLong'. -/
def bitmapLongCard : Claim7 := { stood := { row := bitmapLongRow, standIns := [], harness := (true, "1b3c0876e991e43fe6dfc5f29e841074561da3120470ae124b27c0a000ab4120"), looks := false }, kinds := [], alts := [], laidByText := true, laidKinds := [.data], laidTests := true, laidLooks := .later }
def BitmapLongCardSaid : Prop := Claim7.holds Tryd.pinned (.plain (OpenSpec.ofChange bitmapLongSpec)) bitmapLongCard

/-- THE SECOND FORM's CARD OF 'hearthlaw3.BitmapParts'. -/
def bitmapPartsUptoCard : Claim7 := { stood := { row := bitmapPartsUptoRow, standIns := [], harness := (true, "1b3c0876e991e43fe6dfc5f29e841074561da3120470ae124b27c0a000ab4120"), looks := false }, kinds := [], alts := [], laidByText := true, laidKinds := [.data], laidTests := true, laidLooks := .later }
def BitmapPartsUptoCardSaid : Prop := Claim7.holds Tryd.pinned (.plain (OpenSpec.upto bitmapPartsSpec)) bitmapPartsUptoCard

/-- THE SECOND FORM's CARD OF 'hearthlaw3.BitmapWalk'. -/
def bitmapWalkUptoCard : Claim7 := { stood := { row := bitmapWalkUptoRow, standIns := [], harness := (true, "1b3c0876e991e43fe6dfc5f29e841074561da3120470ae124b27c0a000ab4120"), looks := false }, kinds := [], alts := [], laidByText := true, laidKinds := [.data], laidTests := true, laidLooks := .later }
def BitmapWalkUptoCardSaid : Prop := Claim7.holds Tryd.pinned (.plain (OpenSpec.upto bitmapWalkSpec)) bitmapWalkUptoCard

/-- THE SECOND FORM's CARD OF 'hearthlaw3.BitmapGaps'. -/
def bitmapGapsUptoCard : Claim7 := { stood := { row := bitmapGapsUptoRow, standIns := [], harness := (true, "1b3c0876e991e43fe6dfc5f29e841074561da3120470ae124b27c0a000ab4120"), looks := false }, kinds := [], alts := [], laidByText := true, laidKinds := [.data], laidTests := true, laidLooks := .later }
def BitmapGapsUptoCardSaid : Prop := Claim7.holds Tryd.pinned (.plain (OpenSpec.upto bitmapGapsSpec)) bitmapGapsUptoCard

/-- THE SECOND FORM's CARD OF 'hearthlaw3.BitmapLong'. -/
def bitmapLongUptoCard : Claim7 := { stood := { row := bitmapLongUptoRow, standIns := [], harness := (true, "1b3c0876e991e43fe6dfc5f29e841074561da3120470ae124b27c0a000ab4120"), looks := false }, kinds := [], alts := [], laidByText := true, laidKinds := [.data], laidTests := true, laidLooks := .later }
def BitmapLongUptoCardSaid : Prop := Claim7.holds Tryd.pinned (.plain (OpenSpec.upto bitmapLongSpec)) bitmapLongUptoCard
end Rows
end Go.Proofs.YtnkobcldagajeabDoor
