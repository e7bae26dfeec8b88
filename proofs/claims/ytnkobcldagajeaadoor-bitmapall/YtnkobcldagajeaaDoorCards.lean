/-
  DERIVED. GIVEN WITH THE SEED: THE CARDS: each row of YtnkobcldagajeaaDoorRows.lean that lists a variable, with what it lists TIED to the program's text (the seventh form; the later family's looks); each row that meets fmt, with fmt's text TOLD by the authors' own Lean function (tested against real Go, not proved from fmt's source: count such statements apart). THE CARD IS WHAT COUNTS. Prove the row's statement (the work); the ties are given (YtnkobcldagajeaaDoorTie.lean); close each card by the builder's one call (the guide's Derived/Test/ToyasCard.lean, 'card_holds'). Laid BY PROGRAM, IN A SANDBOX (cutbox-door.mjs). By AI agents, Wed Nov 11 2026. No macro, syntax, notation, axiom, sorry.
-/
import Derived.Test.YtnkobcldagajeaaDoorRows
import GoSem.ClaimSeven
namespace Go.Proofs.YtnkobcldagajeaaDoor
namespace Rows

/-- THE TIED CARD OF 'hearthlaw3.BitmapNews'. -/
def bitmapNewsCard : Claim7 := { stood := { row := bitmapNewsRow, standIns := [], harness := (true, "0db4938b30feab275eb4fd0dde17c8bfb5abf6d16b1201defe86e218058acf37"), looks := false }, kinds := [], alts := [], laidByText := true, laidKinds := [.data], laidTests := true, laidLooks := .later }
def BitmapNewsCardSaid : Prop := Claim7.holds Tryd.pinned (.plain (OpenSpec.ofChange bitmapNewsSpec)) bitmapNewsCard

/-- THE TIED CARD OF 'hearthlaw3.BitmapOnes'. -/
def bitmapOnesCard : Claim7 := { stood := { row := bitmapOnesRow, standIns := [], harness := (true, "0db4938b30feab275eb4fd0dde17c8bfb5abf6d16b1201defe86e218058acf37"), looks := false }, kinds := [], alts := [], laidByText := true, laidKinds := [.data], laidTests := true, laidLooks := .later }
def BitmapOnesCardSaid : Prop := Claim7.holds Tryd.pinned (.plain (OpenSpec.ofChange bitmapOnesSpec)) bitmapOnesCard

/-- THE TIED CARD OF 'hearthlaw3.BitmapCounts'. -/
def bitmapCountsCard : Claim7 := { stood := { row := bitmapCountsRow, standIns := [], harness := (true, "0db4938b30feab275eb4fd0dde17c8bfb5abf6d16b1201defe86e218058acf37"), looks := false }, kinds := [], alts := [], laidByText := true, laidKinds := [.data], laidTests := true, laidLooks := .later }
def BitmapCountsCardSaid : Prop := Claim7.holds Tryd.pinned (.plain (OpenSpec.ofChange bitmapCountsSpec)) bitmapCountsCard

/-- THE TIED CARD OF 'hearthlaw3.BitmapLooks'. -/
def bitmapLooksCard : Claim7 := { stood := { row := bitmapLooksRow, standIns := [], harness := (true, "0db4938b30feab275eb4fd0dde17c8bfb5abf6d16b1201defe86e218058acf37"), looks := false }, kinds := [], alts := [], laidByText := true, laidKinds := [.data], laidTests := true, laidLooks := .later }
def BitmapLooksCardSaid : Prop := Claim7.holds Tryd.pinned (.plain (OpenSpec.ofChange bitmapLooksSpec)) bitmapLooksCard

/-- THE TIED CARD OF 'hearthlaw3.BitmapAlls'. -/
def bitmapAllsCard : Claim7 := { stood := { row := bitmapAllsRow, standIns := [], harness := (true, "0db4938b30feab275eb4fd0dde17c8bfb5abf6d16b1201defe86e218058acf37"), looks := false }, kinds := [], alts := [], laidByText := true, laidKinds := [.data], laidTests := true, laidLooks := .later }
def BitmapAllsCardSaid : Prop := Claim7.holds Tryd.pinned (.plain (OpenSpec.ofChange bitmapAllsSpec)) bitmapAllsCard

/-- THE TIED CARD OF 'hearthlaw3.BitmapAll'. -/
def bitmapAllCard : Claim7 := { stood := { row := bitmapAllRow, standIns := [], harness := (true, "0db4938b30feab275eb4fd0dde17c8bfb5abf6d16b1201defe86e218058acf37"), looks := false }, kinds := [], alts := [], laidByText := true, laidKinds := [.data], laidTests := true, laidLooks := .later }
def BitmapAllCardSaid : Prop := Claim7.holds Tryd.pinned (.plain (OpenSpec.ofChange bitmapAllSpec)) bitmapAllCard

/-- THE SECOND FORM's CARD OF 'hearthlaw3.BitmapNews'. -/
def bitmapNewsUptoCard : Claim7 := { stood := { row := bitmapNewsUptoRow, standIns := [], harness := (true, "0db4938b30feab275eb4fd0dde17c8bfb5abf6d16b1201defe86e218058acf37"), looks := false }, kinds := [], alts := [], laidByText := true, laidKinds := [.data], laidTests := true, laidLooks := .later }
def BitmapNewsUptoCardSaid : Prop := Claim7.holds Tryd.pinned (.plain (OpenSpec.upto bitmapNewsSpec)) bitmapNewsUptoCard

/-- THE SECOND FORM's CARD OF 'hearthlaw3.BitmapOnes'. -/
def bitmapOnesUptoCard : Claim7 := { stood := { row := bitmapOnesUptoRow, standIns := [], harness := (true, "0db4938b30feab275eb4fd0dde17c8bfb5abf6d16b1201defe86e218058acf37"), looks := false }, kinds := [], alts := [], laidByText := true, laidKinds := [.data], laidTests := true, laidLooks := .later }
def BitmapOnesUptoCardSaid : Prop := Claim7.holds Tryd.pinned (.plain (OpenSpec.upto bitmapOnesSpec)) bitmapOnesUptoCard

/-- THE SECOND FORM's CARD OF 'hearthlaw3.BitmapCounts'. -/
def bitmapCountsUptoCard : Claim7 := { stood := { row := bitmapCountsUptoRow, standIns := [], harness := (true, "0db4938b30feab275eb4fd0dde17c8bfb5abf6d16b1201defe86e218058acf37"), looks := false }, kinds := [], alts := [], laidByText := true, laidKinds := [.data], laidTests := true, laidLooks := .later }
def BitmapCountsUptoCardSaid : Prop := Claim7.holds Tryd.pinned (.plain (OpenSpec.upto bitmapCountsSpec)) bitmapCountsUptoCard

/-- THE SECOND FORM's CARD OF 'hearthlaw3.BitmapLooks'. -/
def bitmapLooksUptoCard : Claim7 := { stood := { row := bitmapLooksUptoRow, standIns := [], harness := (true, "0db4938b30feab275eb4fd0dde17c8bfb5abf6d16b1201defe86e218058acf37"), looks := false }, kinds := [], alts := [], laidByText := true, laidKinds := [.data], laidTests := true, laidLooks := .later }
def BitmapLooksUptoCardSaid : Prop := Claim7.holds Tryd.pinned (.plain (OpenSpec.upto bitmapLooksSpec)) bitmapLooksUptoCard

/-- THE SECOND FORM's CARD OF 'hearthlaw3.BitmapAlls'. -/
def bitmapAllsUptoCard : Claim7 := { stood := { row := bitmapAllsUptoRow, standIns := [], harness := (true, "0db4938b30feab275eb4fd0dde17c8bfb5abf6d16b1201defe86e218058acf37"), looks := false }, kinds := [], alts := [], laidByText := true, laidKinds := [.data], laidTests := true, laidLooks := .later }
def BitmapAllsUptoCardSaid : Prop := Claim7.holds Tryd.pinned (.plain (OpenSpec.upto bitmapAllsSpec)) bitmapAllsUptoCard

/-- THE SECOND FORM's CARD OF 'hearthlaw3.BitmapAll'. -/
def bitmapAllUptoCard : Claim7 := { stood := { row := bitmapAllUptoRow, standIns := [], harness := (true, "0db4938b30feab275eb4fd0dde17c8bfb5abf6d16b1201defe86e218058acf37"), looks := false }, kinds := [], alts := [], laidByText := true, laidKinds := [.data], laidTests := true, laidLooks := .later }
def BitmapAllUptoCardSaid : Prop := Claim7.holds Tryd.pinned (.plain (OpenSpec.upto bitmapAllSpec)) bitmapAllUptoCard
end Rows
end Go.Proofs.YtnkobcldagajeaaDoor
