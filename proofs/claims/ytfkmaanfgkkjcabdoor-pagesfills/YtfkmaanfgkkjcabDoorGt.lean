/- the listed variables -/
import Derived.Test.YtfkmaanfgkkjcabDoorRows
import Derived.Test.YtfkmaanfgkkjcabDoorTie
import Derived.Test.YtfkmaanfgkkjcabDoorGa
import Derived.ProofKit
import Derived.LaidMore
import Derived.OpenShut
import Derived.Stop.Joined
import Derived.SevenTiedAt
import Derived.ChangeArms
import Derived.Deep.Slices
import Derived.Lib.SmallJoins
namespace Go.Proofs.YtfkmaanfgkkjcabDoor
open Go.ChangeShapes Go.WideShapes Go.ChangeAt Go.RowKit
set_option linter.unusedVariables false
set_option linter.unusedSimpArgs false

theorem own : ownKnob Tryd.prog.godebug = none := by kernel_rfl
theorem laid_out : laidOutB Tryd.prog = true := by kernel_rfl
theorem gF : Tryd.prog.globalNamed "hearth/pages.free" = some 1 := by kernel_rfl
theorem gR : Tryd.prog.globalNamed "hearth/pages.rest" = some 0 := by kernel_rfl
theorem tF : (Tryd.prog.globals[1]?).map (·.type) = some 37 := by kernel_rfl
theorem tR : (Tryd.prog.globals[0]?).map (·.type) = some 37 := by kernel_rfl
theorem cells_int : Tryd.prog.cellsOf 3 = 1 := by kernel_rfl
def laidL : List (String × DataW Unit) := [("hearth/pages.free", Rows.laid_hearth_pages_free), ("hearth/pages.rest", Rows.laid_hearth_pages_rest)]
theorem door_met (os : Os) (args : Array Value) : laidMetH Tryd.prog laidL ((World.doorLaid Tryd.prog 400 os).forCall (fun _ _ => 0) ⟨#[], args, []⟩).memory :=
  laidMetH_of_parts3 (fuel := 8) (laidMet_of_run' 8 (by kernel_rfl) (by kernel_rfl)) (by kernel_rfl) (by kernel_rfl)
/-- a variable of three ints -/
theorem three {W : World} {f : Nat} {q : List MemPlace} {z0 z1 z2 : Int} {cs : Array Value} (hd : DataW.trod (fun x => ()) Tryd.prog W 0 (fun x => true) false f 37 cs.toList = some (.agg [.lit (.int .i64 z0), .lit (.int .i64 z1), .lit (.int .i64 z2)], q)) :
    cs[0]? = some (.int .i64 z0) ∧ cs[1]? = some (.int .i64 z1) ∧ cs[2]? = some (.int .i64 z2) := by
  obtain ⟨ys, m2, rfl, hy, hylen, hyn, hyel⟩ := DataW.trod_struct Tryd.underlying37 hd
  have hy3 : ys.length = 3 := hyn
  have k0 : DataW.trod (fun x => ()) Tryd.prog W 0 (fun x => true) false m2 3 (List.take (Tryd.prog.cellsOf 3) (List.drop 0 cs.toList)) = ys[0]? := hyel 0 _ rfl
  have k1 : DataW.trod (fun x => ()) Tryd.prog W 0 (fun x => true) false m2 3 (List.take (Tryd.prog.cellsOf 3) (List.drop 1 cs.toList)) = ys[1]? := hyel 1 _ rfl
  have k2 : DataW.trod (fun x => ()) Tryd.prog W 0 (fun x => true) false m2 3 (List.take (Tryd.prog.cellsOf 3) (List.drop 2 cs.toList)) = ys[2]? := hyel 2 _ rfl
  match ys, hy3 with
  | [y0, y1, y2], _ =>
    rw [cells_int] at k0 k1 k2
    simp only [List.getElem?_cons_zero, List.getElem?_cons_succ] at k0 k1 k2
    obtain ⟨x0, e0, f0, _⟩ := DataW.trod_int Tryd.underlying3 k0
    obtain ⟨x1, e1, f1, _⟩ := DataW.trod_int Tryd.underlying3 k1
    obtain ⟨x2, e2, f2, _⟩ := DataW.trod_int Tryd.underlying3 k2
    simp [f0, f1, f2] at hy
    obtain ⟨⟨rfl, rfl, rfl⟩, _⟩ := hy
    have q0 : cs.toList[0]? = some (.int .i64 z0) := by
      have := congrArg (fun l => l[0]?) e0
      simpa [List.getElem?_take, List.getElem?_drop] using this
    have q1 : cs.toList[1]? = some (.int .i64 z1) := by
      have := congrArg (fun l => l[0]?) e1
      simpa [List.getElem?_take, List.getElem?_drop] using this
    have q2 : cs.toList[2]? = some (.int .i64 z2) := by
      have := congrArg (fun l => l[0]?) e2
      simpa [List.getElem?_take, List.getElem?_drop] using this
    rw [Array.getElem?_toList] at q0 q1 q2
    exact ⟨q0, q1, q2⟩
theorem tab_of_laid {W : World} (h : laidMetH Tryd.prog laidL W) : Tab W := by
  rw [MakeChecks.laidMetH_plain _ _ _ (by kernel_rfl)] at h
  obtain ⟨ps, ⟨g, t, cs, f, p, q, hg, ht, hv, hd, hrest, _⟩, _, _⟩ := h
  obtain ⟨g2, t2, cs2, f2, p2, q2, hg2, ht2, hv2, hd2, _, _⟩ := hrest
  obtain rfl := Option.some.inj (gF.symm.trans hg)
  obtain rfl := Option.some.inj (tF.symm.trans ht)
  obtain rfl := Option.some.inj (gR.symm.trans hg2)
  obtain rfl := Option.some.inj (tR.symm.trans ht2)
  obtain ⟨a0, a1, a2⟩ := three hd
  obtain ⟨b0, b1, b2⟩ := three hd2
  intro j hj
  rw [World.var?_cell hg hv j, World.var?_cell hg2 hv2 j]
  have hj' : j = 0 ∨ j = 1 ∨ j = 2 := by omega
  rcases hj' with rfl | rfl | rfl
  · exact ⟨a0, b0⟩
  · exact ⟨a1, b1⟩
  · exact ⟨a2, b2⟩
end Go.Proofs.YtfkmaanfgkkjcabDoor
