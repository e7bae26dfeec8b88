/-
  DERIVED. GIVEN WITH THE SEED: THE CARDS: each row of YthijkfcobkdihaaDoorRows.lean that lists a variable, with what it lists TIED to the program's text (the seventh form; the later family's looks); each row that meets fmt, with fmt's text TOLD by the authors' own Lean function (tested against real Go, not proved from fmt's source: count such statements apart). THE CARD IS WHAT COUNTS. Prove the row's statement (the work); the ties are given (YthijkfcobkdihaaDoorTie.lean); close each card by the builder's one call (the guide's Derived/Test/ToyasCard.lean, 'card_holds'). Laid BY PROGRAM, IN A SANDBOX (cutbox-door.mjs). By AI agents, Wed Nov 11 2026. No macro, syntax, notation, axiom, sorry.
-/
import Derived.Test.YthijkfcobkdihaaDoorRows
import GoSem.ClaimSeven
namespace Go.Proofs.YthijkfcobkdihaaDoor
namespace Rows

/-- THE TIED CARD OF 'hearthlaw18.CodeNumbers'. -/
def codeNumbersCard : Claim7 := { stood := { row := codeNumbersRow, standIns := [], harness := (true, "d82b3e9e1e5f601c6d3c56dd0af1c5531e8b1fbf6daae26301a512ca28feb5f9"), looks := true }, kinds := [], alts := [], laidByText := true, laidKinds := [.handle], laidTests := true, laidLooks := .later }
def CodeNumbersCardSaid : Prop := Claim7.holds Tryd.pinned (.plain (OpenSpec.ofChange codeNumbersSpec)) codeNumbersCard

/-- THE TIED CARD OF 'hearthlaw18.CodeLimits'. -/
def codeLimitsCard : Claim7 := { stood := { row := codeLimitsRow, standIns := [], harness := (true, "d82b3e9e1e5f601c6d3c56dd0af1c5531e8b1fbf6daae26301a512ca28feb5f9"), looks := true }, kinds := [], alts := [], laidByText := true, laidKinds := [.handle], laidTests := true, laidLooks := .later }
def CodeLimitsCardSaid : Prop := Claim7.holds Tryd.pinned (.plain (OpenSpec.ofChange codeLimitsSpec)) codeLimitsCard

/-- THE TIED CARD OF 'hearthlaw19.CheckTells'. -/
def checkTellsCard : Claim7 := { stood := { row := checkTellsRow, standIns := [], harness := (true, "d82b3e9e1e5f601c6d3c56dd0af1c5531e8b1fbf6daae26301a512ca28feb5f9"), looks := true }, kinds := [], alts := [], laidByText := true, laidKinds := [.handle], laidTests := true, laidLooks := .later }
def CheckTellsCardSaid : Prop := Claim7.holds Tryd.pinned (.plain (OpenSpec.ofChange checkTellsSpec)) checkTellsCard

/-- THE TIED CARD OF 'hearthlaw19.CheckAll'. -/
def checkAllCard : Claim7 := { stood := { row := checkAllRow, standIns := [], harness := (true, "d82b3e9e1e5f601c6d3c56dd0af1c5531e8b1fbf6daae26301a512ca28feb5f9"), looks := true }, kinds := [], alts := [], laidByText := true, laidKinds := [.handle], laidTests := true, laidLooks := .later }
def CheckAllCardSaid : Prop := Claim7.holds Tryd.pinned (.plain (OpenSpec.ofChange checkAllSpec)) checkAllCard

/-- THE TIED CARD OF 'hearthlaw19.CheckTight'. -/
def checkTightCard : Claim7 := { stood := { row := checkTightRow, standIns := [], harness := (true, "d82b3e9e1e5f601c6d3c56dd0af1c5531e8b1fbf6daae26301a512ca28feb5f9"), looks := true }, kinds := [], alts := [], laidByText := true, laidKinds := [.handle], laidTests := true, laidLooks := .later }
def CheckTightCardSaid : Prop := Claim7.holds Tryd.pinned (.plain (OpenSpec.ofChange checkTightSpec)) checkTightCard

/-- THE TIED CARD OF 'hearthlaw19.CheckRefuses'. -/
def checkRefusesCard : Claim7 := { stood := { row := checkRefusesRow, standIns := [], harness := (true, "d82b3e9e1e5f601c6d3c56dd0af1c5531e8b1fbf6daae26301a512ca28feb5f9"), looks := true }, kinds := [], alts := [], laidByText := true, laidKinds := [.handle], laidTests := true, laidLooks := .later }
def CheckRefusesCardSaid : Prop := Claim7.holds Tryd.pinned (.plain (OpenSpec.ofChange checkRefusesSpec)) checkRefusesCard

/-- THE SECOND FORM's CARD OF 'hearthlaw18.CodeNumbers'. -/
def codeNumbersUptoCard : Claim7 := { stood := { row := codeNumbersUptoRow, standIns := [], harness := (true, "d82b3e9e1e5f601c6d3c56dd0af1c5531e8b1fbf6daae26301a512ca28feb5f9"), looks := true }, kinds := [], alts := [], laidByText := true, laidKinds := [.handle], laidTests := true, laidLooks := .later }
def CodeNumbersUptoCardSaid : Prop := Claim7.holds Tryd.pinned (.plain (OpenSpec.upto codeNumbersSpec)) codeNumbersUptoCard

/-- THE SECOND FORM's CARD OF 'hearthlaw18.CodeLimits'. -/
def codeLimitsUptoCard : Claim7 := { stood := { row := codeLimitsUptoRow, standIns := [], harness := (true, "d82b3e9e1e5f601c6d3c56dd0af1c5531e8b1fbf6daae26301a512ca28feb5f9"), looks := true }, kinds := [], alts := [], laidByText := true, laidKinds := [.handle], laidTests := true, laidLooks := .later }
def CodeLimitsUptoCardSaid : Prop := Claim7.holds Tryd.pinned (.plain (OpenSpec.upto codeLimitsSpec)) codeLimitsUptoCard

/-- THE SECOND FORM's CARD OF 'hearthlaw19.CheckTells'. -/
def checkTellsUptoCard : Claim7 := { stood := { row := checkTellsUptoRow, standIns := [], harness := (true, "d82b3e9e1e5f601c6d3c56dd0af1c5531e8b1fbf6daae26301a512ca28feb5f9"), looks := true }, kinds := [], alts := [], laidByText := true, laidKinds := [.handle], laidTests := true, laidLooks := .later }
def CheckTellsUptoCardSaid : Prop := Claim7.holds Tryd.pinned (.plain (OpenSpec.upto checkTellsSpec)) checkTellsUptoCard

/-- THE SECOND FORM's CARD OF 'hearthlaw19.CheckAll'. -/
def checkAllUptoCard : Claim7 := { stood := { row := checkAllUptoRow, standIns := [], harness := (true, "d82b3e9e1e5f601c6d3c56dd0af1c5531e8b1fbf6daae26301a512ca28feb5f9"), looks := true }, kinds := [], alts := [], laidByText := true, laidKinds := [.handle], laidTests := true, laidLooks := .later }
def CheckAllUptoCardSaid : Prop := Claim7.holds Tryd.pinned (.plain (OpenSpec.upto checkAllSpec)) checkAllUptoCard

/-- THE SECOND FORM's CARD OF 'hearthlaw19.CheckTight'. -/
def checkTightUptoCard : Claim7 := { stood := { row := checkTightUptoRow, standIns := [], harness := (true, "d82b3e9e1e5f601c6d3c56dd0af1c5531e8b1fbf6daae26301a512ca28feb5f9"), looks := true }, kinds := [], alts := [], laidByText := true, laidKinds := [.handle], laidTests := true, laidLooks := .later }
def CheckTightUptoCardSaid : Prop := Claim7.holds Tryd.pinned (.plain (OpenSpec.upto checkTightSpec)) checkTightUptoCard

/-- THE SECOND FORM's CARD OF 'hearthlaw19.CheckRefuses'. -/
def checkRefusesUptoCard : Claim7 := { stood := { row := checkRefusesUptoRow, standIns := [], harness := (true, "d82b3e9e1e5f601c6d3c56dd0af1c5531e8b1fbf6daae26301a512ca28feb5f9"), looks := true }, kinds := [], alts := [], laidByText := true, laidKinds := [.handle], laidTests := true, laidLooks := .later }
def CheckRefusesUptoCardSaid : Prop := Claim7.holds Tryd.pinned (.plain (OpenSpec.upto checkRefusesSpec)) checkRefusesUptoCard
end Rows
end Go.Proofs.YthijkfcobkdihaaDoor
