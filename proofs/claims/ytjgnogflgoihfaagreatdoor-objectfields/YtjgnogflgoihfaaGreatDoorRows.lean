/-
  NARROWER THAN 'FOR EVERY INPUT', by the rows' own cells (each row's printed sentence says how): ObjectMakes: laid · ObjectFields: laid · ObjectRaws: laid · ObjectRights: laid · ObjectAll: laid.
  DERIVED. THE GIVEN ROWS OF THIS SEAT. 5 by the template 'for every input the law returns true; each argument reads behind the call as it read before'; 0 by the template 'total and deterministic' (their statements: YtjgnogflgoihfaaGreatDoorTotals.lean).
  GIVEN WITH THE SEED: the statements are not yours to turn. If you find one false, say at which input.
  Laid BY PROGRAM, IN A SANDBOX (cutbox-rows.mjs): the forced cells as the released guide's own fill.sh prints them over the translation 5d2d6353e8773ec6… (all of the seat's roots in one cut). By AI agents, Wed Nov 11 2026. No macro, syntax, notation, axiom, sorry.
-/
import Derived.Test.YtjgnogflgoihfaaGreatDoorChecked
import GoSem.Claim
import GoSem.ClaimJoined
import GoSem.ClaimMapViews
import Derived.JoinedTies
import Derived.KernelRfl
namespace Go.Proofs.YtjgnogflgoihfaaGreatDoor
/- THE CELL 'sum', in the pinned program and in every row, IS THE sha256 OF THE DUMP (.gsa) THAT YtjgnogflgoihfaaGreatDoorProg.lean LOADS. Nothing in Lean hashes anything: it is a label: what it is worth is what the hold of that sum in a sandbox is worth. -/
noncomputable def Tryz.pinned : Pinned := { name := "ytjgnogflgoihfaagreatdoor", sum := "5d2d6353e8773ec6371f66d6966f61e08964942cb9fae02bebc5a92ae8181089", checked := Tryz.checked }
namespace Rows
def none {H : Type} : Left H := { results := [], args := [] }

/- WHAT THE LISTED PACKAGE-LEVEL VARIABLES READ AS WHEN THE CALL BEGINS. Each datum BY PROGRAM (the guide's laid-datum.mjs) off the statement by which the dump's own 'gosem.cut.vars' lays the variable. In a bare row this is a premise. The card (YtjgnogflgoihfaaGreatDoorCards.lean) ties it to the program's text. -/
def laid_math_bits_deBruijn64tab {H : Type} : DataW H := .agg [.lit (.int .u8 0), .lit (.int .u8 1), .lit (.int .u8 56), .lit (.int .u8 2), .lit (.int .u8 57), .lit (.int .u8 49), .lit (.int .u8 28), .lit (.int .u8 3), .lit (.int .u8 61), .lit (.int .u8 58), .lit (.int .u8 42), .lit (.int .u8 50), .lit (.int .u8 38), .lit (.int .u8 29), .lit (.int .u8 17), .lit (.int .u8 4), .lit (.int .u8 62), .lit (.int .u8 47), .lit (.int .u8 59), .lit (.int .u8 36), .lit (.int .u8 45), .lit (.int .u8 43), .lit (.int .u8 51), .lit (.int .u8 22), .lit (.int .u8 53), .lit (.int .u8 39), .lit (.int .u8 33), .lit (.int .u8 30), .lit (.int .u8 24), .lit (.int .u8 18), .lit (.int .u8 12), .lit (.int .u8 5), .lit (.int .u8 63), .lit (.int .u8 55), .lit (.int .u8 48), .lit (.int .u8 27), .lit (.int .u8 60), .lit (.int .u8 41), .lit (.int .u8 37), .lit (.int .u8 16), .lit (.int .u8 46), .lit (.int .u8 35), .lit (.int .u8 44), .lit (.int .u8 21), .lit (.int .u8 52), .lit (.int .u8 32), .lit (.int .u8 23), .lit (.int .u8 11), .lit (.int .u8 54), .lit (.int .u8 26), .lit (.int .u8 40), .lit (.int .u8 15), .lit (.int .u8 34), .lit (.int .u8 20), .lit (.int .u8 31), .lit (.int .u8 10), .lit (.int .u8 25), .lit (.int .u8 14), .lit (.int .u8 19), .lit (.int .u8 9), .lit (.int .u8 13), .lit (.int .u8 8), .lit (.int .u8 7), .lit (.int .u8 6)]
def laid_hearth_layout_shapes {H : Type} : DataW H := .agg [.agg [.lit (.int .i64 0), .lit (.int .i64 0)], .agg [.lit (.int .i64 3), .lit (.int .i64 0)], .agg [.lit (.int .i64 2), .lit (.int .i64 0)], .agg [.lit (.int .i64 1), .lit (.int .i64 1023)], .agg [.lit (.int .i64 2), .lit (.int .i64 4096)], .agg [.lit (.int .i64 2), .lit (.int .i64 0)], .agg [.lit (.int .i64 1), .lit (.int .i64 64)], .agg [.lit (.int .i64 2), .lit (.int .i64 0)], .agg [.lit (.int .i64 3), .lit (.int .i64 0)], .agg [.lit (.int .i64 3), .lit (.int .i64 0)], .agg [.lit (.int .i64 3), .lit (.int .i64 0)], .agg [.lit (.int .i64 5), .lit (.int .i64 128)], .agg [.lit (.int .i64 1), .lit (.int .i64 512)], .agg [.lit (.int .i64 4), .lit (.int .i64 0)]]
def laid_hearth_pages_free {H : Type} : DataW H := .agg [.lit (.int .i64 0), .lit (.int .i64 0), .lit (.int .i64 0)]
def laid_hearth_pages_rest {H : Type} : DataW H := .agg [.lit (.int .i64 3), .lit (.int .i64 0), .lit (.int .i64 0)]

/-- 'hearthlaw9.ObjectMakes': WHATEVER THE INPUT: true; the input reads as it did. -/
def objectMakesSpec : ChangeSpec := { name := "objectMakes", fn := fun _ => fun
  | [d1, d2] => { results := [.lit (.bool true)], args := [d1, d2] }
  | _ => none }
def objectMakesRow : OpenClaim := { program := "ytjgnogflgoihfaagreatdoor", sum := "5d2d6353e8773ec6371f66d6966f61e08964942cb9fae02bebc5a92ae8181089", func := "hearth/hearthlaw9.ObjectMakes", spec := "objectMakes", unfollowed := true, recurses := true, named := ["hearth/layout.shapes", "hearth/pages.rest", "hearth/pages.free", "math/bits.deBruijn64tab"], apart := false, laid := [("math/bits.deBruijn64tab", laid_math_bits_deBruijn64tab), ("hearth/layout.shapes", laid_hearth_layout_shapes), ("hearth/pages.free", laid_hearth_pages_free), ("hearth/pages.rest", laid_hearth_pages_rest)] }
def ObjectMakesSaid : Prop := objectMakesRow.holds Tryz.pinned (OpenSpec.ofChange objectMakesSpec)

/-- ITS FALSE NEIGHBOUR: 'it returns false'. Refute it at one input. -/
def objectMakesWrong : ChangeSpec := { name := "objectMakes", fn := fun _ => fun
  | [d1, d2] => { results := [.lit (.bool false)], args := [d1, d2] }
  | _ => none }
def ObjectMakesWrongFalsely : Prop := objectMakesRow.holds Tryz.pinned (OpenSpec.ofChange objectMakesWrong)

/-- 'hearthlaw9.ObjectFields': WHATEVER THE INPUT: true; the input reads as it did. -/
def objectFieldsSpec : ChangeSpec := { name := "objectFields", fn := fun _ => fun
  | [d1, d2] => { results := [.lit (.bool true)], args := [d1, d2] }
  | _ => none }
def objectFieldsRow : OpenClaim := { program := "ytjgnogflgoihfaagreatdoor", sum := "5d2d6353e8773ec6371f66d6966f61e08964942cb9fae02bebc5a92ae8181089", func := "hearth/hearthlaw9.ObjectFields", spec := "objectFields", unfollowed := true, recurses := true, named := ["hearth/layout.shapes", "hearth/pages.rest", "hearth/pages.free", "math/bits.deBruijn64tab"], apart := false, laid := [("math/bits.deBruijn64tab", laid_math_bits_deBruijn64tab), ("hearth/layout.shapes", laid_hearth_layout_shapes), ("hearth/pages.free", laid_hearth_pages_free), ("hearth/pages.rest", laid_hearth_pages_rest)] }
def ObjectFieldsSaid : Prop := objectFieldsRow.holds Tryz.pinned (OpenSpec.ofChange objectFieldsSpec)

/-- ITS FALSE NEIGHBOUR: 'it returns false'. Refute it at one input. -/
def objectFieldsWrong : ChangeSpec := { name := "objectFields", fn := fun _ => fun
  | [d1, d2] => { results := [.lit (.bool false)], args := [d1, d2] }
  | _ => none }
def ObjectFieldsWrongFalsely : Prop := objectFieldsRow.holds Tryz.pinned (OpenSpec.ofChange objectFieldsWrong)

/-- 'hearthlaw9.ObjectRaws': WHATEVER THE INPUT: true; the input reads as it did. -/
def objectRawsSpec : ChangeSpec := { name := "objectRaws", fn := fun _ => fun
  | [d1, d2] => { results := [.lit (.bool true)], args := [d1, d2] }
  | _ => none }
def objectRawsRow : OpenClaim := { program := "ytjgnogflgoihfaagreatdoor", sum := "5d2d6353e8773ec6371f66d6966f61e08964942cb9fae02bebc5a92ae8181089", func := "hearth/hearthlaw9.ObjectRaws", spec := "objectRaws", unfollowed := true, recurses := true, named := ["hearth/layout.shapes", "hearth/pages.rest", "hearth/pages.free", "math/bits.deBruijn64tab"], apart := false, laid := [("math/bits.deBruijn64tab", laid_math_bits_deBruijn64tab), ("hearth/layout.shapes", laid_hearth_layout_shapes), ("hearth/pages.free", laid_hearth_pages_free), ("hearth/pages.rest", laid_hearth_pages_rest)] }
def ObjectRawsSaid : Prop := objectRawsRow.holds Tryz.pinned (OpenSpec.ofChange objectRawsSpec)

/-- ITS FALSE NEIGHBOUR: 'it returns false'. Refute it at one input. -/
def objectRawsWrong : ChangeSpec := { name := "objectRaws", fn := fun _ => fun
  | [d1, d2] => { results := [.lit (.bool false)], args := [d1, d2] }
  | _ => none }
def ObjectRawsWrongFalsely : Prop := objectRawsRow.holds Tryz.pinned (OpenSpec.ofChange objectRawsWrong)

/-- 'hearthlaw9.ObjectRights': WHATEVER THE INPUT: true; the input reads as it did. -/
def objectRightsSpec : ChangeSpec := { name := "objectRights", fn := fun _ => fun
  | [d1, d2] => { results := [.lit (.bool true)], args := [d1, d2] }
  | _ => none }
def objectRightsRow : OpenClaim := { program := "ytjgnogflgoihfaagreatdoor", sum := "5d2d6353e8773ec6371f66d6966f61e08964942cb9fae02bebc5a92ae8181089", func := "hearth/hearthlaw9.ObjectRights", spec := "objectRights", unfollowed := true, recurses := true, named := ["hearth/layout.shapes", "hearth/pages.rest", "hearth/pages.free", "math/bits.deBruijn64tab"], apart := false, laid := [("math/bits.deBruijn64tab", laid_math_bits_deBruijn64tab), ("hearth/layout.shapes", laid_hearth_layout_shapes), ("hearth/pages.free", laid_hearth_pages_free), ("hearth/pages.rest", laid_hearth_pages_rest)] }
def ObjectRightsSaid : Prop := objectRightsRow.holds Tryz.pinned (OpenSpec.ofChange objectRightsSpec)

/-- ITS FALSE NEIGHBOUR: 'it returns false'. Refute it at one input. -/
def objectRightsWrong : ChangeSpec := { name := "objectRights", fn := fun _ => fun
  | [d1, d2] => { results := [.lit (.bool false)], args := [d1, d2] }
  | _ => none }
def ObjectRightsWrongFalsely : Prop := objectRightsRow.holds Tryz.pinned (OpenSpec.ofChange objectRightsWrong)

/-- 'hearthlaw9.ObjectAll': WHATEVER THE INPUT: true; the input reads as it did. -/
def objectAllSpec : ChangeSpec := { name := "objectAll", fn := fun _ => fun
  | [d1, d2] => { results := [.lit (.bool true)], args := [d1, d2] }
  | _ => none }
def objectAllRow : OpenClaim := { program := "ytjgnogflgoihfaagreatdoor", sum := "5d2d6353e8773ec6371f66d6966f61e08964942cb9fae02bebc5a92ae8181089", func := "hearth/hearthlaw9.ObjectAll", spec := "objectAll", unfollowed := true, recurses := true, named := ["hearth/layout.shapes", "hearth/pages.rest", "hearth/pages.free", "math/bits.deBruijn64tab"], apart := false, laid := [("math/bits.deBruijn64tab", laid_math_bits_deBruijn64tab), ("hearth/layout.shapes", laid_hearth_layout_shapes), ("hearth/pages.free", laid_hearth_pages_free), ("hearth/pages.rest", laid_hearth_pages_rest)] }
def ObjectAllSaid : Prop := objectAllRow.holds Tryz.pinned (OpenSpec.ofChange objectAllSpec)

/-- ITS FALSE NEIGHBOUR: 'it returns false'. Refute it at one input. -/
def objectAllWrong : ChangeSpec := { name := "objectAll", fn := fun _ => fun
  | [d1, d2] => { results := [.lit (.bool false)], args := [d1, d2] }
  | _ => none }
def ObjectAllWrongFalsely : Prop := objectAllRow.holds Tryz.pinned (OpenSpec.ofChange objectAllWrong)

/- THE SECOND FORM. 'bulk': how many values and letters a reading holds, each counted each time it is reached (what is shared counts as often as it is met; a slice's spare places count too). A statement '..UptoSaid' is the law's where the arguments, and the package variables that the reading takes, are together of bulk at most 1048576: NARROWER than '..Said'. Prove '..Said' where nothing that the law and all that it calls make is longer than what came in: it says more and counts as full. Else prove '..UptoSaid'. A law counts once. -/
mutual
def uptoBulk {H : Type} : DataW H → Nat
  | .lit (.string bytes) => bytes.length + 1
  | .lit _ => 1
  | .nil => 1
  | .ptr d => uptoBulk d + 1
  | .slice elems spare => uptoBulkAll elems + uptoBulkAll spare + 1
  | .agg parts => uptoBulkAll parts + 1
  | .iface _ d => uptoBulk d + 1
  | .map entries => uptoBulkEntries entries + 1
  | .held _ => 1
def uptoBulkAll {H : Type} : List (DataW H) → Nat
  | [] => 0
  | d :: r => uptoBulk d + uptoBulkAll r
def uptoBulkEntries {H : Type} : List (Lit × DataW H) → Nat
  | [] => 0
  | x :: r => uptoBulkEntry x + uptoBulkEntries r
def uptoBulkEntry {H : Type} : Lit × DataW H → Nat
  | (.string bytes, d) => bytes.length + uptoBulk d + 1
  | (_, d) => uptoBulk d + 1
 end
def uptoSmall : (H : Type) → List (DataW H) → Bool := fun _ ds => decide (uptoBulkAll ds ≤ 1048576)
def OpenSpec.upto (s : _root_.Go.ChangeSpec) : _root_.Go.OpenSpec := { _root_.Go.OpenSpec.ofChange s with cond := some uptoSmall }

/-- 'hearthlaw9.ObjectMakes', WHERE WHAT IT READS IS OF BULK AT MOST 1048576: true; the input reads as it did. -/
def objectMakesUptoRow : OpenClaim := { program := "ytjgnogflgoihfaagreatdoor", sum := "5d2d6353e8773ec6371f66d6966f61e08964942cb9fae02bebc5a92ae8181089", func := "hearth/hearthlaw9.ObjectMakes", spec := "objectMakes", unfollowed := true, recurses := true, named := ["hearth/layout.shapes", "hearth/pages.rest", "hearth/pages.free", "math/bits.deBruijn64tab"], apart := false, laid := [("math/bits.deBruijn64tab", laid_math_bits_deBruijn64tab), ("hearth/layout.shapes", laid_hearth_layout_shapes), ("hearth/pages.free", laid_hearth_pages_free), ("hearth/pages.rest", laid_hearth_pages_rest)], narrowed := true }
def ObjectMakesUptoSaid : Prop := objectMakesUptoRow.holds Tryz.pinned (OpenSpec.upto objectMakesSpec)

/-- 'hearthlaw9.ObjectFields', WHERE WHAT IT READS IS OF BULK AT MOST 1048576: true; the input reads as it did. -/
def objectFieldsUptoRow : OpenClaim := { program := "ytjgnogflgoihfaagreatdoor", sum := "5d2d6353e8773ec6371f66d6966f61e08964942cb9fae02bebc5a92ae8181089", func := "hearth/hearthlaw9.ObjectFields", spec := "objectFields", unfollowed := true, recurses := true, named := ["hearth/layout.shapes", "hearth/pages.rest", "hearth/pages.free", "math/bits.deBruijn64tab"], apart := false, laid := [("math/bits.deBruijn64tab", laid_math_bits_deBruijn64tab), ("hearth/layout.shapes", laid_hearth_layout_shapes), ("hearth/pages.free", laid_hearth_pages_free), ("hearth/pages.rest", laid_hearth_pages_rest)], narrowed := true }
def ObjectFieldsUptoSaid : Prop := objectFieldsUptoRow.holds Tryz.pinned (OpenSpec.upto objectFieldsSpec)

/-- 'hearthlaw9.ObjectRaws', WHERE WHAT IT READS IS OF BULK AT MOST 1048576: true; the input reads as it did. -/
def objectRawsUptoRow : OpenClaim := { program := "ytjgnogflgoihfaagreatdoor", sum := "5d2d6353e8773ec6371f66d6966f61e08964942cb9fae02bebc5a92ae8181089", func := "hearth/hearthlaw9.ObjectRaws", spec := "objectRaws", unfollowed := true, recurses := true, named := ["hearth/layout.shapes", "hearth/pages.rest", "hearth/pages.free", "math/bits.deBruijn64tab"], apart := false, laid := [("math/bits.deBruijn64tab", laid_math_bits_deBruijn64tab), ("hearth/layout.shapes", laid_hearth_layout_shapes), ("hearth/pages.free", laid_hearth_pages_free), ("hearth/pages.rest", laid_hearth_pages_rest)], narrowed := true }
def ObjectRawsUptoSaid : Prop := objectRawsUptoRow.holds Tryz.pinned (OpenSpec.upto objectRawsSpec)

/-- 'hearthlaw9.ObjectRights', WHERE WHAT IT READS IS OF BULK AT MOST 1048576: true; the input reads as it did. -/
def objectRightsUptoRow : OpenClaim := { program := "ytjgnogflgoihfaagreatdoor", sum := "5d2d6353e8773ec6371f66d6966f61e08964942cb9fae02bebc5a92ae8181089", func := "hearth/hearthlaw9.ObjectRights", spec := "objectRights", unfollowed := true, recurses := true, named := ["hearth/layout.shapes", "hearth/pages.rest", "hearth/pages.free", "math/bits.deBruijn64tab"], apart := false, laid := [("math/bits.deBruijn64tab", laid_math_bits_deBruijn64tab), ("hearth/layout.shapes", laid_hearth_layout_shapes), ("hearth/pages.free", laid_hearth_pages_free), ("hearth/pages.rest", laid_hearth_pages_rest)], narrowed := true }
def ObjectRightsUptoSaid : Prop := objectRightsUptoRow.holds Tryz.pinned (OpenSpec.upto objectRightsSpec)

/-- 'hearthlaw9.ObjectAll', WHERE WHAT IT READS IS OF BULK AT MOST 1048576: true; the input reads as it did. -/
def objectAllUptoRow : OpenClaim := { program := "ytjgnogflgoihfaagreatdoor", sum := "5d2d6353e8773ec6371f66d6966f61e08964942cb9fae02bebc5a92ae8181089", func := "hearth/hearthlaw9.ObjectAll", spec := "objectAll", unfollowed := true, recurses := true, named := ["hearth/layout.shapes", "hearth/pages.rest", "hearth/pages.free", "math/bits.deBruijn64tab"], apart := false, laid := [("math/bits.deBruijn64tab", laid_math_bits_deBruijn64tab), ("hearth/layout.shapes", laid_hearth_layout_shapes), ("hearth/pages.free", laid_hearth_pages_free), ("hearth/pages.rest", laid_hearth_pages_rest)], narrowed := true }
def ObjectAllUptoSaid : Prop := objectAllUptoRow.holds Tryz.pinned (OpenSpec.upto objectAllSpec)

end Rows
end Go.Proofs.YtjgnogflgoihfaaGreatDoor
