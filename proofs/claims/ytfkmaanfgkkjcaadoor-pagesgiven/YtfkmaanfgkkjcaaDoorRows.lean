/-
  NARROWER THAN 'FOR EVERY INPUT', by the rows' own cells (each row's printed sentence says how): PagesNews: laid · PagesTakes: laid · PagesCounts: laid · PagesAll: laid · PagesLowest: laid · PagesGiven: laid.
  DERIVED. THE GIVEN ROWS OF THIS SEAT. 6 by the template 'for every input the law returns true; each argument reads behind the call as it read before'; 0 by the template 'total and deterministic' (their statements: YtfkmaanfgkkjcaaDoorTotals.lean).
  GIVEN WITH THE SEED: the statements are not yours to turn. If you find one false, say at which input.
  Laid BY PROGRAM, IN A SANDBOX (cutbox-rows.mjs): the forced cells as the released guide's own fill.sh prints them over the translation daf5ebd8f8e271d0… (all of the seat's roots in one cut). By AI agents, Wed Nov 11 2026. No macro, syntax, notation, axiom, sorry.
-/
import Derived.Test.YtfkmaanfgkkjcaaDoorChecked
import GoSem.Claim
import GoSem.ClaimJoined
import GoSem.ClaimMapViews
import Derived.JoinedTies
import Derived.KernelRfl
namespace Go.Proofs.YtfkmaanfgkkjcaaDoor
/- THE CELL 'sum', in the pinned program and in every row, IS THE sha256 OF THE DUMP (.gsa) THAT YtfkmaanfgkkjcaaDoorProg.lean LOADS. Nothing in Lean hashes anything: it is a label: what it is worth is what the hold of that sum in a sandbox is worth. -/
noncomputable def Tryd.pinned : Pinned := { name := "ytfkmaanfgkkjcaadoor", sum := "daf5ebd8f8e271d0af9ee8c3500d022254be865b508c3a6e8570ccb0d8553667", checked := Tryd.checked }
namespace Rows
def none {H : Type} : Left H := { results := [], args := [] }

/- WHAT THE LISTED PACKAGE-LEVEL VARIABLES READ AS WHEN THE CALL BEGINS. Each datum BY PROGRAM (the guide's laid-datum.mjs) off the statement by which the dump's own 'gosem.cut.vars' lays the variable. In a bare row this is a premise. The card (YtfkmaanfgkkjcaaDoorCards.lean) ties it to the program's text. -/
def laid_hearth_pages_free {H : Type} : DataW H := .agg [.lit (.int .i64 0), .lit (.int .i64 0), .lit (.int .i64 0)]
def laid_hearth_pages_rest {H : Type} : DataW H := .agg [.lit (.int .i64 3), .lit (.int .i64 0), .lit (.int .i64 0)]

/-- 'hearthlaw7.PagesNews': WHATEVER THE INPUT: true; the input reads as it did. -/
def pagesNewsSpec : ChangeSpec := { name := "pagesNews", fn := fun _ => fun
  | [d] => { results := [.lit (.bool true)], args := [d] }
  | _ => none }
def pagesNewsRow : OpenClaim := { program := "ytfkmaanfgkkjcaadoor", sum := "daf5ebd8f8e271d0af9ee8c3500d022254be865b508c3a6e8570ccb0d8553667", func := "hearth/hearthlaw7.PagesNews", spec := "pagesNews", named := ["hearth/pages.free", "hearth/pages.rest"], apart := false, laid := [("hearth/pages.free", laid_hearth_pages_free), ("hearth/pages.rest", laid_hearth_pages_rest)] }
def PagesNewsSaid : Prop := pagesNewsRow.holds Tryd.pinned (OpenSpec.ofChange pagesNewsSpec)

/-- ITS FALSE NEIGHBOUR: 'it returns false'. Refute it at one input. -/
def pagesNewsWrong : ChangeSpec := { name := "pagesNews", fn := fun _ => fun
  | [d] => { results := [.lit (.bool false)], args := [d] }
  | _ => none }
def PagesNewsWrongFalsely : Prop := pagesNewsRow.holds Tryd.pinned (OpenSpec.ofChange pagesNewsWrong)

/-- 'hearthlaw7.PagesTakes': WHATEVER THE INPUT: true; the input reads as it did. -/
def pagesTakesSpec : ChangeSpec := { name := "pagesTakes", fn := fun _ => fun
  | [d1, d2, d3] => { results := [.lit (.bool true)], args := [d1, d2, d3] }
  | _ => none }
def pagesTakesRow : OpenClaim := { program := "ytfkmaanfgkkjcaadoor", sum := "daf5ebd8f8e271d0af9ee8c3500d022254be865b508c3a6e8570ccb0d8553667", func := "hearth/hearthlaw7.PagesTakes", spec := "pagesTakes", named := ["hearth/pages.free", "hearth/pages.rest"], apart := false, laid := [("hearth/pages.free", laid_hearth_pages_free), ("hearth/pages.rest", laid_hearth_pages_rest)] }
def PagesTakesSaid : Prop := pagesTakesRow.holds Tryd.pinned (OpenSpec.ofChange pagesTakesSpec)

/-- ITS FALSE NEIGHBOUR: 'it returns false'. Refute it at one input. -/
def pagesTakesWrong : ChangeSpec := { name := "pagesTakes", fn := fun _ => fun
  | [d1, d2, d3] => { results := [.lit (.bool false)], args := [d1, d2, d3] }
  | _ => none }
def PagesTakesWrongFalsely : Prop := pagesTakesRow.holds Tryd.pinned (OpenSpec.ofChange pagesTakesWrong)

/-- 'hearthlaw7.PagesCounts': WHATEVER THE INPUT: true; the input reads as it did. -/
def pagesCountsSpec : ChangeSpec := { name := "pagesCounts", fn := fun _ => fun
  | [d1, d2, d3] => { results := [.lit (.bool true)], args := [d1, d2, d3] }
  | _ => none }
def pagesCountsRow : OpenClaim := { program := "ytfkmaanfgkkjcaadoor", sum := "daf5ebd8f8e271d0af9ee8c3500d022254be865b508c3a6e8570ccb0d8553667", func := "hearth/hearthlaw7.PagesCounts", spec := "pagesCounts", named := ["hearth/pages.free", "hearth/pages.rest"], apart := false, laid := [("hearth/pages.free", laid_hearth_pages_free), ("hearth/pages.rest", laid_hearth_pages_rest)] }
def PagesCountsSaid : Prop := pagesCountsRow.holds Tryd.pinned (OpenSpec.ofChange pagesCountsSpec)

/-- ITS FALSE NEIGHBOUR: 'it returns false'. Refute it at one input. -/
def pagesCountsWrong : ChangeSpec := { name := "pagesCounts", fn := fun _ => fun
  | [d1, d2, d3] => { results := [.lit (.bool false)], args := [d1, d2, d3] }
  | _ => none }
def PagesCountsWrongFalsely : Prop := pagesCountsRow.holds Tryd.pinned (OpenSpec.ofChange pagesCountsWrong)

/-- 'hearthlaw7.PagesAll': WHATEVER THE INPUT: true; the input reads as it did. -/
def pagesAllSpec : ChangeSpec := { name := "pagesAll", fn := fun _ => fun
  | [d1, d2, d3] => { results := [.lit (.bool true)], args := [d1, d2, d3] }
  | _ => none }
def pagesAllRow : OpenClaim := { program := "ytfkmaanfgkkjcaadoor", sum := "daf5ebd8f8e271d0af9ee8c3500d022254be865b508c3a6e8570ccb0d8553667", func := "hearth/hearthlaw7.PagesAll", spec := "pagesAll", named := ["hearth/pages.free", "hearth/pages.rest"], apart := false, laid := [("hearth/pages.free", laid_hearth_pages_free), ("hearth/pages.rest", laid_hearth_pages_rest)] }
def PagesAllSaid : Prop := pagesAllRow.holds Tryd.pinned (OpenSpec.ofChange pagesAllSpec)

/-- ITS FALSE NEIGHBOUR: 'it returns false'. Refute it at one input. -/
def pagesAllWrong : ChangeSpec := { name := "pagesAll", fn := fun _ => fun
  | [d1, d2, d3] => { results := [.lit (.bool false)], args := [d1, d2, d3] }
  | _ => none }
def PagesAllWrongFalsely : Prop := pagesAllRow.holds Tryd.pinned (OpenSpec.ofChange pagesAllWrong)

/-- 'hearthlaw7.PagesLowest': WHATEVER THE INPUT: true; the input reads as it did. -/
def pagesLowestSpec : ChangeSpec := { name := "pagesLowest", fn := fun _ => fun
  | [d1, d2, d3, d4] => { results := [.lit (.bool true)], args := [d1, d2, d3, d4] }
  | _ => none }
def pagesLowestRow : OpenClaim := { program := "ytfkmaanfgkkjcaadoor", sum := "daf5ebd8f8e271d0af9ee8c3500d022254be865b508c3a6e8570ccb0d8553667", func := "hearth/hearthlaw7.PagesLowest", spec := "pagesLowest", named := ["hearth/pages.free", "hearth/pages.rest"], apart := false, laid := [("hearth/pages.free", laid_hearth_pages_free), ("hearth/pages.rest", laid_hearth_pages_rest)] }
def PagesLowestSaid : Prop := pagesLowestRow.holds Tryd.pinned (OpenSpec.ofChange pagesLowestSpec)

/-- ITS FALSE NEIGHBOUR: 'it returns false'. Refute it at one input. -/
def pagesLowestWrong : ChangeSpec := { name := "pagesLowest", fn := fun _ => fun
  | [d1, d2, d3, d4] => { results := [.lit (.bool false)], args := [d1, d2, d3, d4] }
  | _ => none }
def PagesLowestWrongFalsely : Prop := pagesLowestRow.holds Tryd.pinned (OpenSpec.ofChange pagesLowestWrong)

/-- 'hearthlaw7.PagesGiven': WHATEVER THE INPUT: true; the input reads as it did. -/
def pagesGivenSpec : ChangeSpec := { name := "pagesGiven", fn := fun _ => fun
  | [d1, d2, d3] => { results := [.lit (.bool true)], args := [d1, d2, d3] }
  | _ => none }
def pagesGivenRow : OpenClaim := { program := "ytfkmaanfgkkjcaadoor", sum := "daf5ebd8f8e271d0af9ee8c3500d022254be865b508c3a6e8570ccb0d8553667", func := "hearth/hearthlaw7.PagesGiven", spec := "pagesGiven", named := ["hearth/pages.free", "hearth/pages.rest"], apart := false, laid := [("hearth/pages.free", laid_hearth_pages_free), ("hearth/pages.rest", laid_hearth_pages_rest)] }
def PagesGivenSaid : Prop := pagesGivenRow.holds Tryd.pinned (OpenSpec.ofChange pagesGivenSpec)

/-- ITS FALSE NEIGHBOUR: 'it returns false'. Refute it at one input. -/
def pagesGivenWrong : ChangeSpec := { name := "pagesGiven", fn := fun _ => fun
  | [d1, d2, d3] => { results := [.lit (.bool false)], args := [d1, d2, d3] }
  | _ => none }
def PagesGivenWrongFalsely : Prop := pagesGivenRow.holds Tryd.pinned (OpenSpec.ofChange pagesGivenWrong)

/- THE SECOND FORM. 'bulk': how many values and letters a reading holds, each counted each time it is reached (what is shared counts as often as it is met; a slice's spare places count too). A statement '..UptoSaid' is the law's where the arguments, and the package variables that the reading takes, are together of bulk at most 1048576: NARROWER than '..Said'. Prove '..Said' where nothing that the law and all that it calls make is longer than what came in: it says more and counts as full. Else prove '..UptoSaid'. A law counts once. -/
mutual
def uptoBulk {H : Type} : DataW H → Nat
  | .lit (.string bytes) => bytes.length + 1
  | .lit _ => 1
  | .nil => 1
  | .ptr d => uptoBulk d + 1
  | .slice elems spare => uptoBulkAll elems + uptoBulkAll spare + 1
  | .agg parts => uptoBulkAll parts + 1
  | .iface _ d => uptoBulk d + 1
  | .map entries => uptoBulkEntries entries + 1
  | .held _ => 1
def uptoBulkAll {H : Type} : List (DataW H) → Nat
  | [] => 0
  | d :: r => uptoBulk d + uptoBulkAll r
def uptoBulkEntries {H : Type} : List (Lit × DataW H) → Nat
  | [] => 0
  | x :: r => uptoBulkEntry x + uptoBulkEntries r
def uptoBulkEntry {H : Type} : Lit × DataW H → Nat
  | (.string bytes, d) => bytes.length + uptoBulk d + 1
  | (_, d) => uptoBulk d + 1
 end
def uptoSmall : (H : Type) → List (DataW H) → Bool := fun _ ds => decide (uptoBulkAll ds ≤ 1048576)
def OpenSpec.upto (s : _root_.Go.ChangeSpec) : _root_.Go.OpenSpec := { _root_.Go.OpenSpec.ofChange s with cond := some uptoSmall }

/-- 'hearthlaw7.PagesNews', WHERE WHAT IT READS IS OF BULK AT MOST 1048576: true; the input reads as it did. -/
def pagesNewsUptoRow : OpenClaim := { program := "ytfkmaanfgkkjcaadoor", sum := "daf5ebd8f8e271d0af9ee8c3500d022254be865b508c3a6e8570ccb0d8553667", func := "hearth/hearthlaw7.PagesNews", spec := "pagesNews", named := ["hearth/pages.free", "hearth/pages.rest"], apart := false, laid := [("hearth/pages.free", laid_hearth_pages_free), ("hearth/pages.rest", laid_hearth_pages_rest)], narrowed := true }
def PagesNewsUptoSaid : Prop := pagesNewsUptoRow.holds Tryd.pinned (OpenSpec.upto pagesNewsSpec)

/-- 'hearthlaw7.PagesTakes', WHERE WHAT IT READS IS OF BULK AT MOST 1048576: true; the input reads as it did. -/
def pagesTakesUptoRow : OpenClaim := { program := "ytfkmaanfgkkjcaadoor", sum := "daf5ebd8f8e271d0af9ee8c3500d022254be865b508c3a6e8570ccb0d8553667", func := "hearth/hearthlaw7.PagesTakes", spec := "pagesTakes", named := ["hearth/pages.free", "hearth/pages.rest"], apart := false, laid := [("hearth/pages.free", laid_hearth_pages_free), ("hearth/pages.rest", laid_hearth_pages_rest)], narrowed := true }
def PagesTakesUptoSaid : Prop := pagesTakesUptoRow.holds Tryd.pinned (OpenSpec.upto pagesTakesSpec)

/-- 'hearthlaw7.PagesCounts', WHERE WHAT IT READS IS OF BULK AT MOST 1048576: true; the input reads as it did. -/
def pagesCountsUptoRow : OpenClaim := { program := "ytfkmaanfgkkjcaadoor", sum := "daf5ebd8f8e271d0af9ee8c3500d022254be865b508c3a6e8570ccb0d8553667", func := "hearth/hearthlaw7.PagesCounts", spec := "pagesCounts", named := ["hearth/pages.free", "hearth/pages.rest"], apart := false, laid := [("hearth/pages.free", laid_hearth_pages_free), ("hearth/pages.rest", laid_hearth_pages_rest)], narrowed := true }
def PagesCountsUptoSaid : Prop := pagesCountsUptoRow.holds Tryd.pinned (OpenSpec.upto pagesCountsSpec)

/-- 'hearthlaw7.PagesAll', WHERE WHAT IT READS IS OF BULK AT MOST 1048576: true; the input reads as it did. -/
def pagesAllUptoRow : OpenClaim := { program := "ytfkmaanfgkkjcaadoor", sum := "daf5ebd8f8e271d0af9ee8c3500d022254be865b508c3a6e8570ccb0d8553667", func := "hearth/hearthlaw7.PagesAll", spec := "pagesAll", named := ["hearth/pages.free", "hearth/pages.rest"], apart := false, laid := [("hearth/pages.free", laid_hearth_pages_free), ("hearth/pages.rest", laid_hearth_pages_rest)], narrowed := true }
def PagesAllUptoSaid : Prop := pagesAllUptoRow.holds Tryd.pinned (OpenSpec.upto pagesAllSpec)

/-- 'hearthlaw7.PagesLowest', WHERE WHAT IT READS IS OF BULK AT MOST 1048576: true; the input reads as it did. -/
def pagesLowestUptoRow : OpenClaim := { program := "ytfkmaanfgkkjcaadoor", sum := "daf5ebd8f8e271d0af9ee8c3500d022254be865b508c3a6e8570ccb0d8553667", func := "hearth/hearthlaw7.PagesLowest", spec := "pagesLowest", named := ["hearth/pages.free", "hearth/pages.rest"], apart := false, laid := [("hearth/pages.free", laid_hearth_pages_free), ("hearth/pages.rest", laid_hearth_pages_rest)], narrowed := true }
def PagesLowestUptoSaid : Prop := pagesLowestUptoRow.holds Tryd.pinned (OpenSpec.upto pagesLowestSpec)

/-- 'hearthlaw7.PagesGiven', WHERE WHAT IT READS IS OF BULK AT MOST 1048576: true; the input reads as it did. -/
def pagesGivenUptoRow : OpenClaim := { program := "ytfkmaanfgkkjcaadoor", sum := "daf5ebd8f8e271d0af9ee8c3500d022254be865b508c3a6e8570ccb0d8553667", func := "hearth/hearthlaw7.PagesGiven", spec := "pagesGiven", named := ["hearth/pages.free", "hearth/pages.rest"], apart := false, laid := [("hearth/pages.free", laid_hearth_pages_free), ("hearth/pages.rest", laid_hearth_pages_rest)], narrowed := true }
def PagesGivenUptoSaid : Prop := pagesGivenUptoRow.holds Tryd.pinned (OpenSpec.upto pagesGivenSpec)

end Rows
end Go.Proofs.YtfkmaanfgkkjcaaDoor
