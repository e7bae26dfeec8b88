/-
  DERIVED. GIVEN WITH THE SEED: THE CARDS: each row of YtfkmaanfgkkjcaaDoorRows.lean that lists a variable, with what it lists TIED to the program's text (the seventh form; the later family's looks); each row that meets fmt, with fmt's text TOLD by the authors' own Lean function (tested against real Go, not proved from fmt's source: count such statements apart). THE CARD IS WHAT COUNTS. Prove the row's statement (the work); the ties are given (YtfkmaanfgkkjcaaDoorTie.lean); close each card by the builder's one call (the guide's Derived/Test/ToyasCard.lean, 'card_holds'). Laid BY PROGRAM, IN A SANDBOX (cutbox-door.mjs). By AI agents, Wed Nov 11 2026. No macro, syntax, notation, axiom, sorry.
-/
import Derived.Test.YtfkmaanfgkkjcaaDoorRows
import GoSem.ClaimSeven
namespace Go.Proofs.YtfkmaanfgkkjcaaDoor
namespace Rows

/-- THE TIED CARD OF 'hearthlaw7.PagesNews'. -/
def pagesNewsCard : Claim7 := { stood := { row := pagesNewsRow, standIns := [], harness := (true, "9629a24b328dc8a7f2a7b5509a8442cabf474c191529b22860c88007c580470a"), looks := false }, kinds := [], alts := [], laidByText := true, laidKinds := [.data, .data], laidTests := true, laidLooks := .later }
def PagesNewsCardSaid : Prop := Claim7.holds Tryd.pinned (.plain (OpenSpec.ofChange pagesNewsSpec)) pagesNewsCard

/-- THE TIED CARD OF 'hearthlaw7.PagesTakes'. -/
def pagesTakesCard : Claim7 := { stood := { row := pagesTakesRow, standIns := [], harness := (true, "9629a24b328dc8a7f2a7b5509a8442cabf474c191529b22860c88007c580470a"), looks := false }, kinds := [], alts := [], laidByText := true, laidKinds := [.data, .data], laidTests := true, laidLooks := .later }
def PagesTakesCardSaid : Prop := Claim7.holds Tryd.pinned (.plain (OpenSpec.ofChange pagesTakesSpec)) pagesTakesCard

/-- THE TIED CARD OF 'hearthlaw7.PagesCounts'. -/
def pagesCountsCard : Claim7 := { stood := { row := pagesCountsRow, standIns := [], harness := (true, "9629a24b328dc8a7f2a7b5509a8442cabf474c191529b22860c88007c580470a"), looks := false }, kinds := [], alts := [], laidByText := true, laidKinds := [.data, .data], laidTests := true, laidLooks := .later }
def PagesCountsCardSaid : Prop := Claim7.holds Tryd.pinned (.plain (OpenSpec.ofChange pagesCountsSpec)) pagesCountsCard

/-- THE TIED CARD OF 'hearthlaw7.PagesAll'. -/
def pagesAllCard : Claim7 := { stood := { row := pagesAllRow, standIns := [], harness := (true, "9629a24b328dc8a7f2a7b5509a8442cabf474c191529b22860c88007c580470a"), looks := false }, kinds := [], alts := [], laidByText := true, laidKinds := [.data, .data], laidTests := true, laidLooks := .later }
def PagesAllCardSaid : Prop := Claim7.holds Tryd.pinned (.plain (OpenSpec.ofChange pagesAllSpec)) pagesAllCard

/-- THE TIED CARD OF 'hearthlaw7.PagesLowest'. -/
def pagesLowestCard : Claim7 := { stood := { row := pagesLowestRow, standIns := [], harness := (true, "9629a24b328dc8a7f2a7b5509a8442cabf474c191529b22860c88007c580470a"), looks := false }, kinds := [], alts := [], laidByText := true, laidKinds := [.data, .data], laidTests := true, laidLooks := .later }
def PagesLowestCardSaid : Prop := Claim7.holds Tryd.pinned (.plain (OpenSpec.ofChange pagesLowestSpec)) pagesLowestCard

/-- THE TIED CARD OF 'hearthlaw7.PagesGiven'. -/
def pagesGivenCard : Claim7 := { stood := { row := pagesGivenRow, standIns := [], harness := (true, "9629a24b328dc8a7f2a7b5509a8442cabf474c191529b22860c88007c580470a"), looks := false }, kinds := [], alts := [], laidByText := true, laidKinds := [.data, .data], laidTests := true, laidLooks := .later }
def PagesGivenCardSaid : Prop := Claim7.holds Tryd.pinned (.plain (OpenSpec.ofChange pagesGivenSpec)) pagesGivenCard

/-- THE SECOND FORM's CARD OF 'hearthlaw7.PagesNews'. -/
def pagesNewsUptoCard : Claim7 := { stood := { row := pagesNewsUptoRow, standIns := [], harness := (true, "9629a24b328dc8a7f2a7b5509a8442cabf474c191529b22860c88007c580470a"), looks := false }, kinds := [], alts := [], laidByText := true, laidKinds := [.data, .data], laidTests := true, laidLooks := .later }
def PagesNewsUptoCardSaid : Prop := Claim7.holds Tryd.pinned (.plain (OpenSpec.upto pagesNewsSpec)) pagesNewsUptoCard

/-- THE SECOND FORM's CARD OF 'hearthlaw7.PagesTakes'. -/
def pagesTakesUptoCard : Claim7 := { stood := { row := pagesTakesUptoRow, standIns := [], harness := (true, "9629a24b328dc8a7f2a7b5509a8442cabf474c191529b22860c88007c580470a"), looks := false }, kinds := [], alts := [], laidByText := true, laidKinds := [.data, .data], laidTests := true, laidLooks := .later }
def PagesTakesUptoCardSaid : Prop := Claim7.holds Tryd.pinned (.plain (OpenSpec.upto pagesTakesSpec)) pagesTakesUptoCard

/-- THE SECOND FORM's CARD OF 'hearthlaw7.PagesCounts'. -/
def pagesCountsUptoCard : Claim7 := { stood := { row := pagesCountsUptoRow, standIns := [], harness := (true, "9629a24b328dc8a7f2a7b5509a8442cabf474c191529b22860c88007c580470a"), looks := false }, kinds := [], alts := [], laidByText := true, laidKinds := [.data, .data], laidTests := true, laidLooks := .later }
def PagesCountsUptoCardSaid : Prop := Claim7.holds Tryd.pinned (.plain (OpenSpec.upto pagesCountsSpec)) pagesCountsUptoCard

/-- THE SECOND FORM's CARD OF 'hearthlaw7.PagesAll'. -/
def pagesAllUptoCard : Claim7 := { stood := { row := pagesAllUptoRow, standIns := [], harness := (true, "9629a24b328dc8a7f2a7b5509a8442cabf474c191529b22860c88007c580470a"), looks := false }, kinds := [], alts := [], laidByText := true, laidKinds := [.data, .data], laidTests := true, laidLooks := .later }
def PagesAllUptoCardSaid : Prop := Claim7.holds Tryd.pinned (.plain (OpenSpec.upto pagesAllSpec)) pagesAllUptoCard

/-- THE SECOND FORM's CARD OF 'hearthlaw7.PagesLowest'. -/
def pagesLowestUptoCard : Claim7 := { stood := { row := pagesLowestUptoRow, standIns := [], harness := (true, "9629a24b328dc8a7f2a7b5509a8442cabf474c191529b22860c88007c580470a"), looks := false }, kinds := [], alts := [], laidByText := true, laidKinds := [.data, .data], laidTests := true, laidLooks := .later }
def PagesLowestUptoCardSaid : Prop := Claim7.holds Tryd.pinned (.plain (OpenSpec.upto pagesLowestSpec)) pagesLowestUptoCard

/-- THE SECOND FORM's CARD OF 'hearthlaw7.PagesGiven'. -/
def pagesGivenUptoCard : Claim7 := { stood := { row := pagesGivenUptoRow, standIns := [], harness := (true, "9629a24b328dc8a7f2a7b5509a8442cabf474c191529b22860c88007c580470a"), looks := false }, kinds := [], alts := [], laidByText := true, laidKinds := [.data, .data], laidTests := true, laidLooks := .later }
def PagesGivenUptoCardSaid : Prop := Claim7.holds Tryd.pinned (.plain (OpenSpec.upto pagesGivenSpec)) pagesGivenUptoCard
end Rows
end Go.Proofs.YtfkmaanfgkkjcaaDoor
