/-
  DERIVED. GIVEN WITH THE SEED: THE CARDS: each row of YtcpignkjlnjjmaaDoorRows.lean that lists a variable, with what it lists TIED to the program's text (the seventh form; the later family's looks); each row that meets fmt, with fmt's text TOLD by the authors' own Lean function (tested against real Go, not proved from fmt's source: count such statements apart). THE CARD IS WHAT COUNTS. Prove the row's statement (the work); the ties are given (YtcpignkjlnjjmaaDoorTie.lean); close each card by the builder's one call (the guide's Derived/Test/ToyasCard.lean, 'card_holds'). Laid BY PROGRAM, IN A SANDBOX (cutbox-door.mjs). By AI agents, Wed Nov 11 2026. No macro, syntax, notation, axiom, sorry.
-/
import Derived.Test.YtcpignkjlnjjmaaDoorRows
import GoSem.ClaimSeven
namespace Go.Proofs.YtcpignkjlnjjmaaDoor
namespace Rows

/-- THE TIED CARD OF 'hearthlaw9.ObjectKept'. -/
def objectKeptCard : Claim7 := { stood := { row := objectKeptRow, standIns := [], harness := (true, "c245327764eb9f75a712b762620f9ce25644223c0611e32a293c2e2f2c371553"), looks := true }, kinds := [], alts := [], laidByText := true, laidKinds := [.data, .data, .data, .data], laidTests := true, laidLooks := .later }
def ObjectKeptCardSaid : Prop := Claim7.holds Tryd.pinned (.plain (OpenSpec.ofChange objectKeptSpec)) objectKeptCard

/-- THE SECOND FORM's CARD OF 'hearthlaw9.ObjectKept'. -/
def objectKeptUptoCard : Claim7 := { stood := { row := objectKeptUptoRow, standIns := [], harness := (true, "c245327764eb9f75a712b762620f9ce25644223c0611e32a293c2e2f2c371553"), looks := true }, kinds := [], alts := [], laidByText := true, laidKinds := [.data, .data, .data, .data], laidTests := true, laidLooks := .later }
def ObjectKeptUptoCardSaid : Prop := Claim7.holds Tryd.pinned (.plain (OpenSpec.upto objectKeptSpec)) objectKeptUptoCard
end Rows
end Go.Proofs.YtcpignkjlnjjmaaDoor
