/-
  DERIVED. GIVEN WITH THE SEED: THE CARDS: each row of YtagnpedkomehaaaDoorRows.lean that lists a variable, with what it lists TIED to the program's text (the seventh form; the later family's looks); each row that meets fmt, with fmt's text TOLD by the authors' own Lean function (tested against real Go, not proved from fmt's source: count such statements apart). THE CARD IS WHAT COUNTS. Prove the row's statement (the work); the ties are given (YtagnpedkomehaaaDoorTie.lean); close each card by the builder's one call (the guide's Derived/Test/ToyasCard.lean, 'card_holds'). Laid BY PROGRAM, IN A SANDBOX (cutbox-door.mjs). By AI agents, Wed Nov 11 2026. No macro, syntax, notation, axiom, sorry.
-/
import Derived.Test.YtagnpedkomehaaaDoorRows
import GoSem.ClaimSeven
namespace Go.Proofs.YtagnpedkomehaaaDoor
namespace Rows

/-- THE TIED CARD OF 'hearthlaw19.CheckTells'. -/
def checkTellsCard : Claim7 := { stood := { row := checkTellsRow, standIns := [], harness := (true, "3dd13925f7aa1acc2bcc7da09e673a5b27b8a119b8073a66d8eab31672a5bc45"), looks := true }, kinds := [], alts := [], laidByText := true, laidKinds := [.handle], laidTests := true, laidLooks := .later }
def CheckTellsCardSaid : Prop := Claim7.holds Tryd.pinned (.plain (OpenSpec.ofChange checkTellsSpec)) checkTellsCard

/-- THE TIED CARD OF 'hearthlaw19.CheckAll'. -/
def checkAllCard : Claim7 := { stood := { row := checkAllRow, standIns := [], harness := (true, "3dd13925f7aa1acc2bcc7da09e673a5b27b8a119b8073a66d8eab31672a5bc45"), looks := true }, kinds := [], alts := [], laidByText := true, laidKinds := [.handle], laidTests := true, laidLooks := .later }
def CheckAllCardSaid : Prop := Claim7.holds Tryd.pinned (.plain (OpenSpec.ofChange checkAllSpec)) checkAllCard

/-- THE TIED CARD OF 'hearthlaw19.CheckWalks'. -/
def checkWalksCard : Claim7 := { stood := { row := checkWalksRow, standIns := [], harness := (true, "3dd13925f7aa1acc2bcc7da09e673a5b27b8a119b8073a66d8eab31672a5bc45"), looks := true }, kinds := [], alts := [], laidByText := true, laidKinds := [.handle], laidTests := true, laidLooks := .later }
def CheckWalksCardSaid : Prop := Claim7.holds Tryd.pinned (.plain (OpenSpec.ofChange checkWalksSpec)) checkWalksCard

/-- THE TIED CARD OF 'hearthlaw19.CheckTight'. -/
def checkTightCard : Claim7 := { stood := { row := checkTightRow, standIns := [], harness := (true, "3dd13925f7aa1acc2bcc7da09e673a5b27b8a119b8073a66d8eab31672a5bc45"), looks := true }, kinds := [], alts := [], laidByText := true, laidKinds := [.handle], laidTests := true, laidLooks := .later }
def CheckTightCardSaid : Prop := Claim7.holds Tryd.pinned (.plain (OpenSpec.ofChange checkTightSpec)) checkTightCard

/-- THE TIED CARD OF 'hearthlaw19.CheckRefuses'. -/
def checkRefusesCard : Claim7 := { stood := { row := checkRefusesRow, standIns := [], harness := (true, "3dd13925f7aa1acc2bcc7da09e673a5b27b8a119b8073a66d8eab31672a5bc45"), looks := true }, kinds := [], alts := [], laidByText := true, laidKinds := [.handle], laidTests := true, laidLooks := .later }
def CheckRefusesCardSaid : Prop := Claim7.holds Tryd.pinned (.plain (OpenSpec.ofChange checkRefusesSpec)) checkRefusesCard

/-- THE TIED CARD OF 'hearthlaw19.CheckOrder'. -/
def checkOrderCard : Claim7 := { stood := { row := checkOrderRow, standIns := [], harness := (true, "3dd13925f7aa1acc2bcc7da09e673a5b27b8a119b8073a66d8eab31672a5bc45"), looks := true }, kinds := [], alts := [], laidByText := true, laidKinds := [.handle], laidTests := true, laidLooks := .later }
def CheckOrderCardSaid : Prop := Claim7.holds Tryd.pinned (.plain (OpenSpec.ofChange checkOrderSpec)) checkOrderCard

/-- THE SECOND FORM's CARD OF 'hearthlaw19.CheckTells'. -/
def checkTellsUptoCard : Claim7 := { stood := { row := checkTellsUptoRow, standIns := [], harness := (true, "3dd13925f7aa1acc2bcc7da09e673a5b27b8a119b8073a66d8eab31672a5bc45"), looks := true }, kinds := [], alts := [], laidByText := true, laidKinds := [.handle], laidTests := true, laidLooks := .later }
def CheckTellsUptoCardSaid : Prop := Claim7.holds Tryd.pinned (.plain (OpenSpec.upto checkTellsSpec)) checkTellsUptoCard

/-- THE SECOND FORM's CARD OF 'hearthlaw19.CheckAll'. -/
def checkAllUptoCard : Claim7 := { stood := { row := checkAllUptoRow, standIns := [], harness := (true, "3dd13925f7aa1acc2bcc7da09e673a5b27b8a119b8073a66d8eab31672a5bc45"), looks := true }, kinds := [], alts := [], laidByText := true, laidKinds := [.handle], laidTests := true, laidLooks := .later }
def CheckAllUptoCardSaid : Prop := Claim7.holds Tryd.pinned (.plain (OpenSpec.upto checkAllSpec)) checkAllUptoCard

/-- THE SECOND FORM's CARD OF 'hearthlaw19.CheckWalks'. -/
def checkWalksUptoCard : Claim7 := { stood := { row := checkWalksUptoRow, standIns := [], harness := (true, "3dd13925f7aa1acc2bcc7da09e673a5b27b8a119b8073a66d8eab31672a5bc45"), looks := true }, kinds := [], alts := [], laidByText := true, laidKinds := [.handle], laidTests := true, laidLooks := .later }
def CheckWalksUptoCardSaid : Prop := Claim7.holds Tryd.pinned (.plain (OpenSpec.upto checkWalksSpec)) checkWalksUptoCard

/-- THE SECOND FORM's CARD OF 'hearthlaw19.CheckTight'. -/
def checkTightUptoCard : Claim7 := { stood := { row := checkTightUptoRow, standIns := [], harness := (true, "3dd13925f7aa1acc2bcc7da09e673a5b27b8a119b8073a66d8eab31672a5bc45"), looks := true }, kinds := [], alts := [], laidByText := true, laidKinds := [.handle], laidTests := true, laidLooks := .later }
def CheckTightUptoCardSaid : Prop := Claim7.holds Tryd.pinned (.plain (OpenSpec.upto checkTightSpec)) checkTightUptoCard

/-- THE SECOND FORM's CARD OF 'hearthlaw19.CheckRefuses'. -/
def checkRefusesUptoCard : Claim7 := { stood := { row := checkRefusesUptoRow, standIns := [], harness := (true, "3dd13925f7aa1acc2bcc7da09e673a5b27b8a119b8073a66d8eab31672a5bc45"), looks := true }, kinds := [], alts := [], laidByText := true, laidKinds := [.handle], laidTests := true, laidLooks := .later }
def CheckRefusesUptoCardSaid : Prop := Claim7.holds Tryd.pinned (.plain (OpenSpec.upto checkRefusesSpec)) checkRefusesUptoCard

/-- THE SECOND FORM's CARD OF 'hearthlaw19.CheckOrder'. -/
def checkOrderUptoCard : Claim7 := { stood := { row := checkOrderUptoRow, standIns := [], harness := (true, "3dd13925f7aa1acc2bcc7da09e673a5b27b8a119b8073a66d8eab31672a5bc45"), looks := true }, kinds := [], alts := [], laidByText := true, laidKinds := [.handle], laidTests := true, laidLooks := .later }
def CheckOrderUptoCardSaid : Prop := Claim7.holds Tryd.pinned (.plain (OpenSpec.upto checkOrderSpec)) checkOrderUptoCard
end Rows
end Go.Proofs.YtagnpedkomehaaaDoor
