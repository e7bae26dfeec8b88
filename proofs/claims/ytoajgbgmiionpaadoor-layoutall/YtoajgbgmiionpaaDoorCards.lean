/-
  DERIVED. GIVEN WITH THE SEED: THE CARDS: each row of YtoajgbgmiionpaaDoorRows.lean that lists a variable, with what it lists TIED to the program's text (the seventh form; the later family's looks); each row that meets fmt, with fmt's text TOLD by the authors' own Lean function (tested against real Go, not proved from fmt's source: count such statements apart). THE CARD IS WHAT COUNTS. Prove the row's statement (the work); the ties are given (YtoajgbgmiionpaaDoorTie.lean); close each card by the builder's one call (the guide's Derived/Test/ToyasCard.lean, 'card_holds'). Laid BY PROGRAM, IN A SANDBOX (cutbox-door.mjs). By AI agents, Wed Nov 11 2026. No macro, syntax, notation, axiom, sorry.
-/
import Derived.Test.YtoajgbgmiionpaaDoorRows
import GoSem.ClaimSeven
namespace Go.Proofs.YtoajgbgmiionpaaDoor
namespace Rows

/-- THE TIED CARD OF 'hearthlaw6.LayoutSizes'. -/
def layoutSizesCard : Claim7 := { stood := { row := layoutSizesRow, standIns := [], harness := (true, "67663da7a9f66d6d928c2cb0d625b0160d5f93d5241016daaf3ccc3c5ab6eb1f"), looks := false }, kinds := [], alts := [], laidByText := true, laidKinds := [.data], laidTests := true, laidLooks := .later }
def LayoutSizesCardSaid : Prop := Claim7.holds Tryd.pinned (.plain (OpenSpec.ofChange layoutSizesSpec)) layoutSizesCard

/-- THE TIED CARD OF 'hearthlaw6.LayoutRoles'. -/
def layoutRolesCard : Claim7 := { stood := { row := layoutRolesRow, standIns := [], harness := (true, "67663da7a9f66d6d928c2cb0d625b0160d5f93d5241016daaf3ccc3c5ab6eb1f"), looks := false }, kinds := [], alts := [], laidByText := true, laidKinds := [.data], laidTests := true, laidLooks := .later }
def LayoutRolesCardSaid : Prop := Claim7.holds Tryd.pinned (.plain (OpenSpec.ofChange layoutRolesSpec)) layoutRolesCard

/-- THE TIED CARD OF 'hearthlaw6.LayoutFields'. -/
def layoutFieldsCard : Claim7 := { stood := { row := layoutFieldsRow, standIns := [], harness := (true, "67663da7a9f66d6d928c2cb0d625b0160d5f93d5241016daaf3ccc3c5ab6eb1f"), looks := false }, kinds := [], alts := [], laidByText := true, laidKinds := [.data], laidTests := true, laidLooks := .later }
def LayoutFieldsCardSaid : Prop := Claim7.holds Tryd.pinned (.plain (OpenSpec.ofChange layoutFieldsSpec)) layoutFieldsCard

/-- THE TIED CARD OF 'hearthlaw6.LayoutAll'. -/
def layoutAllCard : Claim7 := { stood := { row := layoutAllRow, standIns := [], harness := (true, "67663da7a9f66d6d928c2cb0d625b0160d5f93d5241016daaf3ccc3c5ab6eb1f"), looks := false }, kinds := [], alts := [], laidByText := true, laidKinds := [.data], laidTests := true, laidLooks := .later }
def LayoutAllCardSaid : Prop := Claim7.holds Tryd.pinned (.plain (OpenSpec.ofChange layoutAllSpec)) layoutAllCard

/-- THE TIED CARD OF 'hearthlaw6.LayoutSound'. -/
def layoutSoundCard : Claim7 := { stood := { row := layoutSoundRow, standIns := [], harness := (true, "67663da7a9f66d6d928c2cb0d625b0160d5f93d5241016daaf3ccc3c5ab6eb1f"), looks := false }, kinds := [], alts := [], laidByText := true, laidKinds := [.data], laidTests := true, laidLooks := .later }
def LayoutSoundCardSaid : Prop := Claim7.holds Tryd.pinned (.plain (OpenSpec.ofChange layoutSoundSpec)) layoutSoundCard

/-- THE TIED CARD OF 'hearthlaw6.LayoutTable'. -/
def layoutTableCard : Claim7 := { stood := { row := layoutTableRow, standIns := [], harness := (true, "67663da7a9f66d6d928c2cb0d625b0160d5f93d5241016daaf3ccc3c5ab6eb1f"), looks := false }, kinds := [], alts := [], laidByText := true, laidKinds := [.data], laidTests := true, laidLooks := .later }
def LayoutTableCardSaid : Prop := Claim7.holds Tryd.pinned (.plain (OpenSpec.ofChange layoutTableSpec)) layoutTableCard

/-- THE SECOND FORM's CARD OF 'hearthlaw6.LayoutSizes'. -/
def layoutSizesUptoCard : Claim7 := { stood := { row := layoutSizesUptoRow, standIns := [], harness := (true, "67663da7a9f66d6d928c2cb0d625b0160d5f93d5241016daaf3ccc3c5ab6eb1f"), looks := false }, kinds := [], alts := [], laidByText := true, laidKinds := [.data], laidTests := true, laidLooks := .later }
def LayoutSizesUptoCardSaid : Prop := Claim7.holds Tryd.pinned (.plain (OpenSpec.upto layoutSizesSpec)) layoutSizesUptoCard

/-- THE SECOND FORM's CARD OF 'hearthlaw6.LayoutRoles'. -/
def layoutRolesUptoCard : Claim7 := { stood := { row := layoutRolesUptoRow, standIns := [], harness := (true, "67663da7a9f66d6d928c2cb0d625b0160d5f93d5241016daaf3ccc3c5ab6eb1f"), looks := false }, kinds := [], alts := [], laidByText := true, laidKinds := [.data], laidTests := true, laidLooks := .later }
def LayoutRolesUptoCardSaid : Prop := Claim7.holds Tryd.pinned (.plain (OpenSpec.upto layoutRolesSpec)) layoutRolesUptoCard

/-- THE SECOND FORM's CARD OF 'hearthlaw6.LayoutFields'. -/
def layoutFieldsUptoCard : Claim7 := { stood := { row := layoutFieldsUptoRow, standIns := [], harness := (true, "67663da7a9f66d6d928c2cb0d625b0160d5f93d5241016daaf3ccc3c5ab6eb1f"), looks := false }, kinds := [], alts := [], laidByText := true, laidKinds := [.data], laidTests := true, laidLooks := .later }
def LayoutFieldsUptoCardSaid : Prop := Claim7.holds Tryd.pinned (.plain (OpenSpec.upto layoutFieldsSpec)) layoutFieldsUptoCard

/-- THE SECOND FORM's CARD OF 'hearthlaw6.LayoutAll'. -/
def layoutAllUptoCard : Claim7 := { stood := { row := layoutAllUptoRow, standIns := [], harness := (true, "67663da7a9f66d6d928c2cb0d625b0160d5f93d5241016daaf3ccc3c5ab6eb1f"), looks := false }, kinds := [], alts := [], laidByText := true, laidKinds := [.data], laidTests := true, laidLooks := .later }
def LayoutAllUptoCardSaid : Prop := Claim7.holds Tryd.pinned (.plain (OpenSpec.upto layoutAllSpec)) layoutAllUptoCard

/-- THE SECOND FORM's CARD OF 'hearthlaw6.LayoutSound'. -/
def layoutSoundUptoCard : Claim7 := { stood := { row := layoutSoundUptoRow, standIns := [], harness := (true, "67663da7a9f66d6d928c2cb0d625b0160d5f93d5241016daaf3ccc3c5ab6eb1f"), looks := false }, kinds := [], alts := [], laidByText := true, laidKinds := [.data], laidTests := true, laidLooks := .later }
def LayoutSoundUptoCardSaid : Prop := Claim7.holds Tryd.pinned (.plain (OpenSpec.upto layoutSoundSpec)) layoutSoundUptoCard

/-- THE SECOND FORM's CARD OF 'hearthlaw6.LayoutTable'. -/
def layoutTableUptoCard : Claim7 := { stood := { row := layoutTableUptoRow, standIns := [], harness := (true, "67663da7a9f66d6d928c2cb0d625b0160d5f93d5241016daaf3ccc3c5ab6eb1f"), looks := false }, kinds := [], alts := [], laidByText := true, laidKinds := [.data], laidTests := true, laidLooks := .later }
def LayoutTableUptoCardSaid : Prop := Claim7.holds Tryd.pinned (.plain (OpenSpec.upto layoutTableSpec)) layoutTableUptoCard
end Rows
end Go.Proofs.YtoajgbgmiionpaaDoor
