/-
  NARROWER THAN 'FOR EVERY INPUT', by the rows' own cells (each row's printed sentence says how): LayoutSizes: laid · LayoutRoles: laid · LayoutFields: laid · LayoutAll: laid · LayoutSound: laid · LayoutTable: laid.
  DERIVED. THE GIVEN ROWS OF THIS SEAT. 6 by the template 'for every input the law returns true; each argument reads behind the call as it read before'; 0 by the template 'total and deterministic' (their statements: YtoajgbgmiionpaaDoorTotals.lean).
  GIVEN WITH THE SEED: the statements are not yours to turn. If you find one false, say at which input.
  Laid BY PROGRAM, IN A SANDBOX (cutbox-rows.mjs): the forced cells as the released guide's own fill.sh prints them over the translation 769186c94cdd077f… (all of the seat's roots in one cut). By AI agents, Wed Nov 11 2026. No macro, syntax, notation, axiom, sorry.
-/
import Derived.Test.YtoajgbgmiionpaaDoorChecked
import GoSem.Claim
import GoSem.ClaimJoined
import GoSem.ClaimMapViews
import Derived.JoinedTies
import Derived.KernelRfl
namespace Go.Proofs.YtoajgbgmiionpaaDoor
/- THE CELL 'sum', in the pinned program and in every row, IS THE sha256 OF THE DUMP (.gsa) THAT YtoajgbgmiionpaaDoorProg.lean LOADS. Nothing in Lean hashes anything: it is a label: what it is worth is what the hold of that sum in a sandbox is worth. -/
noncomputable def Tryd.pinned : Pinned := { name := "ytoajgbgmiionpaadoor", sum := "769186c94cdd077f8ed24c1fcd4e1ed53cc8c6818bae9271276c2b3d4c3dc77c", checked := Tryd.checked }
namespace Rows
def none {H : Type} : Left H := { results := [], args := [] }

/- WHAT THE LISTED PACKAGE-LEVEL VARIABLES READ AS WHEN THE CALL BEGINS. Each datum BY PROGRAM (the guide's laid-datum.mjs) off the statement by which the dump's own 'gosem.cut.vars' lays the variable. In a bare row this is a premise. The card (YtoajgbgmiionpaaDoorCards.lean) ties it to the program's text. -/
def laid_hearth_layout_shapes {H : Type} : DataW H := .agg [.agg [.lit (.int .i64 0), .lit (.int .i64 0)], .agg [.lit (.int .i64 3), .lit (.int .i64 0)], .agg [.lit (.int .i64 2), .lit (.int .i64 0)], .agg [.lit (.int .i64 1), .lit (.int .i64 1023)], .agg [.lit (.int .i64 2), .lit (.int .i64 4096)], .agg [.lit (.int .i64 2), .lit (.int .i64 0)], .agg [.lit (.int .i64 1), .lit (.int .i64 64)], .agg [.lit (.int .i64 2), .lit (.int .i64 0)], .agg [.lit (.int .i64 3), .lit (.int .i64 0)], .agg [.lit (.int .i64 3), .lit (.int .i64 0)], .agg [.lit (.int .i64 3), .lit (.int .i64 0)], .agg [.lit (.int .i64 5), .lit (.int .i64 128)], .agg [.lit (.int .i64 1), .lit (.int .i64 512)], .agg [.lit (.int .i64 4), .lit (.int .i64 0)]]

/-- 'hearthlaw6.LayoutSizes': WHATEVER THE INPUT: true; the input reads as it did. -/
def layoutSizesSpec : ChangeSpec := { name := "layoutSizes", fn := fun _ => fun
  | [d1, d2] => { results := [.lit (.bool true)], args := [d1, d2] }
  | _ => none }
def layoutSizesRow : OpenClaim := { program := "ytoajgbgmiionpaadoor", sum := "769186c94cdd077f8ed24c1fcd4e1ed53cc8c6818bae9271276c2b3d4c3dc77c", func := "hearth/hearthlaw6.LayoutSizes", spec := "layoutSizes", named := ["hearth/layout.shapes"], apart := false, laid := [("hearth/layout.shapes", laid_hearth_layout_shapes)] }
def LayoutSizesSaid : Prop := layoutSizesRow.holds Tryd.pinned (OpenSpec.ofChange layoutSizesSpec)

/-- ITS FALSE NEIGHBOUR: 'it returns false'. Refute it at one input. -/
def layoutSizesWrong : ChangeSpec := { name := "layoutSizes", fn := fun _ => fun
  | [d1, d2] => { results := [.lit (.bool false)], args := [d1, d2] }
  | _ => none }
def LayoutSizesWrongFalsely : Prop := layoutSizesRow.holds Tryd.pinned (OpenSpec.ofChange layoutSizesWrong)

/-- 'hearthlaw6.LayoutRoles': WHATEVER THE INPUT: true; the input reads as it did. -/
def layoutRolesSpec : ChangeSpec := { name := "layoutRoles", fn := fun _ => fun
  | [d1, d2, d3] => { results := [.lit (.bool true)], args := [d1, d2, d3] }
  | _ => none }
def layoutRolesRow : OpenClaim := { program := "ytoajgbgmiionpaadoor", sum := "769186c94cdd077f8ed24c1fcd4e1ed53cc8c6818bae9271276c2b3d4c3dc77c", func := "hearth/hearthlaw6.LayoutRoles", spec := "layoutRoles", named := ["hearth/layout.shapes"], apart := false, laid := [("hearth/layout.shapes", laid_hearth_layout_shapes)] }
def LayoutRolesSaid : Prop := layoutRolesRow.holds Tryd.pinned (OpenSpec.ofChange layoutRolesSpec)

/-- ITS FALSE NEIGHBOUR: 'it returns false'. Refute it at one input. -/
def layoutRolesWrong : ChangeSpec := { name := "layoutRoles", fn := fun _ => fun
  | [d1, d2, d3] => { results := [.lit (.bool false)], args := [d1, d2, d3] }
  | _ => none }
def LayoutRolesWrongFalsely : Prop := layoutRolesRow.holds Tryd.pinned (OpenSpec.ofChange layoutRolesWrong)

/-- 'hearthlaw6.LayoutFields': WHATEVER THE INPUT: true; the input reads as it did. -/
def layoutFieldsSpec : ChangeSpec := { name := "layoutFields", fn := fun _ => fun
  | [d1, d2] => { results := [.lit (.bool true)], args := [d1, d2] }
  | _ => none }
def layoutFieldsRow : OpenClaim := { program := "ytoajgbgmiionpaadoor", sum := "769186c94cdd077f8ed24c1fcd4e1ed53cc8c6818bae9271276c2b3d4c3dc77c", func := "hearth/hearthlaw6.LayoutFields", spec := "layoutFields", named := ["hearth/layout.shapes"], apart := false, laid := [("hearth/layout.shapes", laid_hearth_layout_shapes)] }
def LayoutFieldsSaid : Prop := layoutFieldsRow.holds Tryd.pinned (OpenSpec.ofChange layoutFieldsSpec)

/-- ITS FALSE NEIGHBOUR: 'it returns false'. Refute it at one input. -/
def layoutFieldsWrong : ChangeSpec := { name := "layoutFields", fn := fun _ => fun
  | [d1, d2] => { results := [.lit (.bool false)], args := [d1, d2] }
  | _ => none }
def LayoutFieldsWrongFalsely : Prop := layoutFieldsRow.holds Tryd.pinned (OpenSpec.ofChange layoutFieldsWrong)

/-- 'hearthlaw6.LayoutAll': WHATEVER THE INPUT: true; the input reads as it did. -/
def layoutAllSpec : ChangeSpec := { name := "layoutAll", fn := fun _ => fun
  | [d] => { results := [.lit (.bool true)], args := [d] }
  | _ => none }
def layoutAllRow : OpenClaim := { program := "ytoajgbgmiionpaadoor", sum := "769186c94cdd077f8ed24c1fcd4e1ed53cc8c6818bae9271276c2b3d4c3dc77c", func := "hearth/hearthlaw6.LayoutAll", spec := "layoutAll", named := ["hearth/layout.shapes"], apart := false, laid := [("hearth/layout.shapes", laid_hearth_layout_shapes)] }
def LayoutAllSaid : Prop := layoutAllRow.holds Tryd.pinned (OpenSpec.ofChange layoutAllSpec)

/-- ITS FALSE NEIGHBOUR: 'it returns false'. Refute it at one input. -/
def layoutAllWrong : ChangeSpec := { name := "layoutAll", fn := fun _ => fun
  | [d] => { results := [.lit (.bool false)], args := [d] }
  | _ => none }
def LayoutAllWrongFalsely : Prop := layoutAllRow.holds Tryd.pinned (OpenSpec.ofChange layoutAllWrong)

/-- 'hearthlaw6.LayoutSound': WHATEVER THE INPUT: true; the input reads as it did. -/
def layoutSoundSpec : ChangeSpec := { name := "layoutSound", fn := fun _ => fun
  | [d1, d2, d3] => { results := [.lit (.bool true)], args := [d1, d2, d3] }
  | _ => none }
def layoutSoundRow : OpenClaim := { program := "ytoajgbgmiionpaadoor", sum := "769186c94cdd077f8ed24c1fcd4e1ed53cc8c6818bae9271276c2b3d4c3dc77c", func := "hearth/hearthlaw6.LayoutSound", spec := "layoutSound", named := ["hearth/layout.shapes"], apart := false, laid := [("hearth/layout.shapes", laid_hearth_layout_shapes)] }
def LayoutSoundSaid : Prop := layoutSoundRow.holds Tryd.pinned (OpenSpec.ofChange layoutSoundSpec)

/-- ITS FALSE NEIGHBOUR: 'it returns false'. Refute it at one input. -/
def layoutSoundWrong : ChangeSpec := { name := "layoutSound", fn := fun _ => fun
  | [d1, d2, d3] => { results := [.lit (.bool false)], args := [d1, d2, d3] }
  | _ => none }
def LayoutSoundWrongFalsely : Prop := layoutSoundRow.holds Tryd.pinned (OpenSpec.ofChange layoutSoundWrong)

/-- 'hearthlaw6.LayoutTable': WHATEVER THE INPUT: true; the input reads as it did. -/
def layoutTableSpec : ChangeSpec := { name := "layoutTable", fn := fun _ => fun
  | [] => { results := [.lit (.bool true)], args := [] }
  | _ => none }
def layoutTableRow : OpenClaim := { program := "ytoajgbgmiionpaadoor", sum := "769186c94cdd077f8ed24c1fcd4e1ed53cc8c6818bae9271276c2b3d4c3dc77c", func := "hearth/hearthlaw6.LayoutTable", spec := "layoutTable", named := ["hearth/layout.shapes"], apart := false, laid := [("hearth/layout.shapes", laid_hearth_layout_shapes)] }
def LayoutTableSaid : Prop := layoutTableRow.holds Tryd.pinned (OpenSpec.ofChange layoutTableSpec)

/-- ITS FALSE NEIGHBOUR: 'it returns false'. Refute it at one input. -/
def layoutTableWrong : ChangeSpec := { name := "layoutTable", fn := fun _ => fun
  | [] => { results := [.lit (.bool false)], args := [] }
  | _ => none }
def LayoutTableWrongFalsely : Prop := layoutTableRow.holds Tryd.pinned (OpenSpec.ofChange layoutTableWrong)

/- THE SECOND FORM. 'bulk': how many values and letters a reading holds, each counted each time it is reached (what is shared counts as often as it is met; a slice's spare places count too). A statement '..UptoSaid' is the law's where the arguments, and the package variables that the reading takes, are together of bulk at most 1048576: NARROWER than '..Said'. Prove '..Said' where nothing that the law and all that it calls make is longer than what came in: it says more and counts as full. Else prove '..UptoSaid'. A law counts once. -/
mutual
def uptoBulk {H : Type} : DataW H → Nat
  | .lit (.string bytes) => bytes.length + 1
  | .lit _ => 1
  | .nil => 1
  | .ptr d => uptoBulk d + 1
  | .slice elems spare => uptoBulkAll elems + uptoBulkAll spare + 1
  | .agg parts => uptoBulkAll parts + 1
  | .iface _ d => uptoBulk d + 1
  | .map entries => uptoBulkEntries entries + 1
  | .held _ => 1
def uptoBulkAll {H : Type} : List (DataW H) → Nat
  | [] => 0
  | d :: r => uptoBulk d + uptoBulkAll r
def uptoBulkEntries {H : Type} : List (Lit × DataW H) → Nat
  | [] => 0
  | x :: r => uptoBulkEntry x + uptoBulkEntries r
def uptoBulkEntry {H : Type} : Lit × DataW H → Nat
  | (.string bytes, d) => bytes.length + uptoBulk d + 1
  | (_, d) => uptoBulk d + 1
 end
def uptoSmall : (H : Type) → List (DataW H) → Bool := fun _ ds => decide (uptoBulkAll ds ≤ 1048576)
def OpenSpec.upto (s : _root_.Go.ChangeSpec) : _root_.Go.OpenSpec := { _root_.Go.OpenSpec.ofChange s with cond := some uptoSmall }

/-- 'hearthlaw6.LayoutSizes', WHERE WHAT IT READS IS OF BULK AT MOST 1048576: true; the input reads as it did. -/
def layoutSizesUptoRow : OpenClaim := { program := "ytoajgbgmiionpaadoor", sum := "769186c94cdd077f8ed24c1fcd4e1ed53cc8c6818bae9271276c2b3d4c3dc77c", func := "hearth/hearthlaw6.LayoutSizes", spec := "layoutSizes", named := ["hearth/layout.shapes"], apart := false, laid := [("hearth/layout.shapes", laid_hearth_layout_shapes)], narrowed := true }
def LayoutSizesUptoSaid : Prop := layoutSizesUptoRow.holds Tryd.pinned (OpenSpec.upto layoutSizesSpec)

/-- 'hearthlaw6.LayoutRoles', WHERE WHAT IT READS IS OF BULK AT MOST 1048576: true; the input reads as it did. -/
def layoutRolesUptoRow : OpenClaim := { program := "ytoajgbgmiionpaadoor", sum := "769186c94cdd077f8ed24c1fcd4e1ed53cc8c6818bae9271276c2b3d4c3dc77c", func := "hearth/hearthlaw6.LayoutRoles", spec := "layoutRoles", named := ["hearth/layout.shapes"], apart := false, laid := [("hearth/layout.shapes", laid_hearth_layout_shapes)], narrowed := true }
def LayoutRolesUptoSaid : Prop := layoutRolesUptoRow.holds Tryd.pinned (OpenSpec.upto layoutRolesSpec)

/-- 'hearthlaw6.LayoutFields', WHERE WHAT IT READS IS OF BULK AT MOST 1048576: true; the input reads as it did. -/
def layoutFieldsUptoRow : OpenClaim := { program := "ytoajgbgmiionpaadoor", sum := "769186c94cdd077f8ed24c1fcd4e1ed53cc8c6818bae9271276c2b3d4c3dc77c", func := "hearth/hearthlaw6.LayoutFields", spec := "layoutFields", named := ["hearth/layout.shapes"], apart := false, laid := [("hearth/layout.shapes", laid_hearth_layout_shapes)], narrowed := true }
def LayoutFieldsUptoSaid : Prop := layoutFieldsUptoRow.holds Tryd.pinned (OpenSpec.upto layoutFieldsSpec)

/-- 'hearthlaw6.LayoutAll', WHERE WHAT IT READS IS OF BULK AT MOST 1048576: true; the input reads as it did. -/
def layoutAllUptoRow : OpenClaim := { program := "ytoajgbgmiionpaadoor", sum := "769186c94cdd077f8ed24c1fcd4e1ed53cc8c6818bae9271276c2b3d4c3dc77c", func := "hearth/hearthlaw6.LayoutAll", spec := "layoutAll", named := ["hearth/layout.shapes"], apart := false, laid := [("hearth/layout.shapes", laid_hearth_layout_shapes)], narrowed := true }
def LayoutAllUptoSaid : Prop := layoutAllUptoRow.holds Tryd.pinned (OpenSpec.upto layoutAllSpec)

/-- 'hearthlaw6.LayoutSound', WHERE WHAT IT READS IS OF BULK AT MOST 1048576: true; the input reads as it did. -/
def layoutSoundUptoRow : OpenClaim := { program := "ytoajgbgmiionpaadoor", sum := "769186c94cdd077f8ed24c1fcd4e1ed53cc8c6818bae9271276c2b3d4c3dc77c", func := "hearth/hearthlaw6.LayoutSound", spec := "layoutSound", named := ["hearth/layout.shapes"], apart := false, laid := [("hearth/layout.shapes", laid_hearth_layout_shapes)], narrowed := true }
def LayoutSoundUptoSaid : Prop := layoutSoundUptoRow.holds Tryd.pinned (OpenSpec.upto layoutSoundSpec)

/-- 'hearthlaw6.LayoutTable', WHERE WHAT IT READS IS OF BULK AT MOST 1048576: true; the input reads as it did. -/
def layoutTableUptoRow : OpenClaim := { program := "ytoajgbgmiionpaadoor", sum := "769186c94cdd077f8ed24c1fcd4e1ed53cc8c6818bae9271276c2b3d4c3dc77c", func := "hearth/hearthlaw6.LayoutTable", spec := "layoutTable", named := ["hearth/layout.shapes"], apart := false, laid := [("hearth/layout.shapes", laid_hearth_layout_shapes)], narrowed := true }
def LayoutTableUptoSaid : Prop := layoutTableUptoRow.holds Tryd.pinned (OpenSpec.upto layoutTableSpec)

end Rows
end Go.Proofs.YtoajgbgmiionpaaDoor
