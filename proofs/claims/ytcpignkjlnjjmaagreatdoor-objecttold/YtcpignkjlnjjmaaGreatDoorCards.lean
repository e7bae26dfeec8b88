/-
  DERIVED. GIVEN WITH THE SEED: THE CARDS: each row of YtcpignkjlnjjmaaGreatDoorRows.lean that lists a variable, with what it lists TIED to the program's text (the seventh form; the later family's looks); each row that meets fmt, with fmt's text TOLD by the authors' own Lean function (tested against real Go, not proved from fmt's source: count such statements apart). THE CARD IS WHAT COUNTS. Prove the row's statement (the work); the ties are given (YtcpignkjlnjjmaaGreatDoorTie.lean); close each card by the builder's one call (the guide's Derived/Test/ToyasCard.lean, 'card_holds'). Laid BY PROGRAM, IN A SANDBOX (cutbox-door.mjs). By AI agents, Wed Nov 11 2026. No macro, syntax, notation, axiom, sorry.
-/
import Derived.Test.YtcpignkjlnjjmaaGreatDoorRows
import GoSem.ClaimSeven
namespace Go.Proofs.YtcpignkjlnjjmaaGreatDoor
namespace Rows

/-- THE TIED CARD OF 'hearthlaw9.ObjectTold'. -/
def objectToldCard : Claim7 := { stood := { row := objectToldRow, standIns := [], harness := (true, "43b5293d451c152c7b6f1c6b2c0f86a0758ab11373665ef349c2d5786b5c73cb"), looks := true }, kinds := [], alts := [], laidByText := true, laidKinds := [.data, .data, .data, .data], laidTests := true, laidLooks := .later }
def ObjectToldCardSaid : Prop := Claim7.holds Tryz.pinned (.plain (OpenSpec.ofChange objectToldSpec)) objectToldCard

/-- THE TIED CARD OF 'hearthlaw9.ObjectNamed'. -/
def objectNamedCard : Claim7 := { stood := { row := objectNamedRow, standIns := [], harness := (true, "43b5293d451c152c7b6f1c6b2c0f86a0758ab11373665ef349c2d5786b5c73cb"), looks := true }, kinds := [], alts := [], laidByText := true, laidKinds := [.data, .data, .data, .data], laidTests := true, laidLooks := .later }
def ObjectNamedCardSaid : Prop := Claim7.holds Tryz.pinned (.plain (OpenSpec.ofChange objectNamedSpec)) objectNamedCard

/-- THE TIED CARD OF 'hearthlaw9.ObjectWrites'. -/
def objectWritesCard : Claim7 := { stood := { row := objectWritesRow, standIns := [], harness := (true, "43b5293d451c152c7b6f1c6b2c0f86a0758ab11373665ef349c2d5786b5c73cb"), looks := true }, kinds := [], alts := [], laidByText := true, laidKinds := [.data, .data, .data, .data], laidTests := true, laidLooks := .later }
def ObjectWritesCardSaid : Prop := Claim7.holds Tryz.pinned (.plain (OpenSpec.ofChange objectWritesSpec)) objectWritesCard

/-- THE SECOND FORM's CARD OF 'hearthlaw9.ObjectTold'. -/
def objectToldUptoCard : Claim7 := { stood := { row := objectToldUptoRow, standIns := [], harness := (true, "43b5293d451c152c7b6f1c6b2c0f86a0758ab11373665ef349c2d5786b5c73cb"), looks := true }, kinds := [], alts := [], laidByText := true, laidKinds := [.data, .data, .data, .data], laidTests := true, laidLooks := .later }
def ObjectToldUptoCardSaid : Prop := Claim7.holds Tryz.pinned (.plain (OpenSpec.upto objectToldSpec)) objectToldUptoCard

/-- THE SECOND FORM's CARD OF 'hearthlaw9.ObjectNamed'. -/
def objectNamedUptoCard : Claim7 := { stood := { row := objectNamedUptoRow, standIns := [], harness := (true, "43b5293d451c152c7b6f1c6b2c0f86a0758ab11373665ef349c2d5786b5c73cb"), looks := true }, kinds := [], alts := [], laidByText := true, laidKinds := [.data, .data, .data, .data], laidTests := true, laidLooks := .later }
def ObjectNamedUptoCardSaid : Prop := Claim7.holds Tryz.pinned (.plain (OpenSpec.upto objectNamedSpec)) objectNamedUptoCard

/-- THE SECOND FORM's CARD OF 'hearthlaw9.ObjectWrites'. -/
def objectWritesUptoCard : Claim7 := { stood := { row := objectWritesUptoRow, standIns := [], harness := (true, "43b5293d451c152c7b6f1c6b2c0f86a0758ab11373665ef349c2d5786b5c73cb"), looks := true }, kinds := [], alts := [], laidByText := true, laidKinds := [.data, .data, .data, .data], laidTests := true, laidLooks := .later }
def ObjectWritesUptoCardSaid : Prop := Claim7.holds Tryz.pinned (.plain (OpenSpec.upto objectWritesSpec)) objectWritesUptoCard
end Rows
end Go.Proofs.YtcpignkjlnjjmaaGreatDoor
