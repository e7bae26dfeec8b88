import Derived.Test.YtjbbkeoolodeaaaGreatDoorRows
import Derived.Test.YtjbbkeoolodeaaaGreatDoorTie
import Derived.Test.YtjbbkeoolodeaaaGreatDoorG00
import Derived.ProofKit
import Derived.LaidMore
import Derived.OpenShut
import Derived.Stop.Joined
import Derived.SevenTiedAt
import Derived.ChangeArms
import Derived.Deep.Slices
import Derived.Lib.SmallJoins
namespace Go.Proofs.YtjbbkeoolodeaaaGreatDoor
open Go.ChangeShapes Go.WideShapes Go.ChangeAt Go.RowKit
set_option linter.unusedVariables false
set_option linter.unusedSimpArgs false

theorem own : ownKnob Tryz.prog.godebug = none := by kernel_rfl
theorem laid_out : laidOutB Tryz.prog = true := by kernel_rfl
theorem gD : Tryz.prog.globalNamed "math/bits.deBruijn64tab" = some 3 := by kernel_rfl
theorem tD : (Tryz.prog.globals[3]?).map (·.type) = some 173 := by kernel_rfl
theorem gS : Tryz.prog.globalNamed "hearth/layout.shapes" = some 0 := by kernel_rfl
theorem tS : (Tryz.prog.globals[0]?).map (·.type) = some 131 := by kernel_rfl
theorem gF : Tryz.prog.globalNamed "hearth/pages.free" = some 2 := by kernel_rfl
theorem tF : (Tryz.prog.globals[2]?).map (·.type) = some 155 := by kernel_rfl
theorem gR : Tryz.prog.globalNamed "hearth/pages.rest" = some 1 := by kernel_rfl
theorem tR : (Tryz.prog.globals[1]?).map (·.type) = some 155 := by kernel_rfl
theorem cells_shape : Tryz.prog.cellsOf 130 = 2 := by kernel_rfl
theorem cells_int : Tryz.prog.cellsOf 3 = 1 := by kernel_rfl
theorem cells_u8 : Tryz.prog.cellsOf 5 = 1 := by kernel_rfl
def laidL : List (String × DataW Unit) := [("math/bits.deBruijn64tab", Rows.laid_math_bits_deBruijn64tab), ("hearth/layout.shapes", Rows.laid_hearth_layout_shapes), ("hearth/pages.free", Rows.laid_hearth_pages_free), ("hearth/pages.rest", Rows.laid_hearth_pages_rest)]
theorem laid_eqS : (Rows.laid_hearth_layout_shapes : DataW Unit) = .agg ((List.range 14).map fun (j : Nat) => .agg [.lit (.int .i64 (wd j)), .lit (.int .i64 (mo j))]) := by kernel_rfl
theorem laid_eqD : (Rows.laid_math_bits_deBruijn64tab : DataW Unit) = .agg (Lib.deBruijn64tab.map fun (n : Nat) => .lit (.int .u8 (n : Int))) := by kernel_rfl
theorem door_met (os : Os) (args : Array Value) : laidMetH Tryz.prog laidL ((World.doorLaid Tryz.prog 400 os).forCall (fun _ _ => 0) ⟨#[], args, []⟩).memory :=
  laidMetH_of_parts3 (fuel := 8) (laidMet_of_run' 8 (by kernel_rfl) (by kernel_rfl)) (by kernel_rfl) (by kernel_rfl)
/-- a variable of three ints -/
theorem three {W : World} {f : Nat} {q : List MemPlace} {z0 z1 z2 : Int} {cs : Array Value} (hd : DataW.trod (fun x => ()) Tryz.prog W 0 (fun x => true) false f 155 cs.toList = some (.agg [.lit (.int .i64 z0), .lit (.int .i64 z1), .lit (.int .i64 z2)], q)) :
    cs[0]? = some (.int .i64 z0) ∧ cs[1]? = some (.int .i64 z1) ∧ cs[2]? = some (.int .i64 z2) := by
  obtain ⟨ys, m2, rfl, hy, hylen, hyn, hyel⟩ := DataW.trod_struct Tryz.underlying155 hd
  have hy3 : ys.length = 3 := hyn
  have k0 : DataW.trod (fun x => ()) Tryz.prog W 0 (fun x => true) false m2 3 (List.take (Tryz.prog.cellsOf 3) (List.drop 0 cs.toList)) = ys[0]? := hyel 0 _ rfl
  have k1 : DataW.trod (fun x => ()) Tryz.prog W 0 (fun x => true) false m2 3 (List.take (Tryz.prog.cellsOf 3) (List.drop 1 cs.toList)) = ys[1]? := hyel 1 _ rfl
  have k2 : DataW.trod (fun x => ()) Tryz.prog W 0 (fun x => true) false m2 3 (List.take (Tryz.prog.cellsOf 3) (List.drop 2 cs.toList)) = ys[2]? := hyel 2 _ rfl
  match ys, hy3 with
  | [y0, y1, y2], _ =>
    rw [cells_int] at k0 k1 k2
    simp only [List.getElem?_cons_zero, List.getElem?_cons_succ] at k0 k1 k2
    obtain ⟨x0, e0, f0, _⟩ := DataW.trod_int Tryz.underlying3 k0
    obtain ⟨x1, e1, f1, _⟩ := DataW.trod_int Tryz.underlying3 k1
    obtain ⟨x2, e2, f2, _⟩ := DataW.trod_int Tryz.underlying3 k2
    simp [f0, f1, f2] at hy
    obtain ⟨⟨rfl, rfl, rfl⟩, _⟩ := hy
    have q0 : cs.toList[0]? = some (.int .i64 z0) := by
      have := congrArg (fun l => l[0]?) e0
      simpa [List.getElem?_take, List.getElem?_drop] using this
    have q1 : cs.toList[1]? = some (.int .i64 z1) := by
      have := congrArg (fun l => l[0]?) e1
      simpa [List.getElem?_take, List.getElem?_drop] using this
    have q2 : cs.toList[2]? = some (.int .i64 z2) := by
      have := congrArg (fun l => l[0]?) e2
      simpa [List.getElem?_take, List.getElem?_drop] using this
    rw [Array.getElem?_toList] at q0 q1 q2
    exact ⟨q0, q1, q2⟩
theorem tab_S {W : World} {cs : Array Value} {f : Nat} {q : List MemPlace} (hv : W.var? Tryz.prog "hearth/layout.shapes" = some cs) (hd : DataW.trod (fun x => ()) Tryz.prog W 0 (fun x => true) false f 131 cs.toList = some (Rows.laid_hearth_layout_shapes, q)) :
    ∀ j : Nat, j < 14 → W.cell? ⟨0, j * 2, none⟩ = some (.int .i64 (wd j)) ∧ W.cell? ⟨0, j * 2 + 1, none⟩ = some (.int .i64 (mo j)) := by
  obtain ⟨xs, m, rfl, hx, hlen, hn, hel⟩ := DataW.trod_array Tryz.underlying131 hd
  rw [laid_eqS] at hx
  simp only [Prod.mk.injEq, DataW.agg.injEq] at hx
  intro j hj
  have hj' := hel j hj
  have hxj : xs[j]? = some (xs[j]'(by omega)) := List.getElem?_eq_getElem (by omega)
  rw [hxj, cells_shape] at hj'
  obtain ⟨ys, m2, rfl, hy, hylen, hyn, hyel⟩ := DataW.trod_struct Tryz.underlying130 hj'
  have hy2 : ys.length = 2 := hyn
  have k0 : DataW.trod (fun x => ()) Tryz.prog W 0 (fun x => true) false m2 3 (List.take (Tryz.prog.cellsOf 3) (List.drop 0 (List.take 2 (List.drop (j * 2) cs.toList)))) = ys[0]? := hyel 0 _ rfl
  have k1 : DataW.trod (fun x => ()) Tryz.prog W 0 (fun x => true) false m2 3 (List.take (Tryz.prog.cellsOf 3) (List.drop 1 (List.take 2 (List.drop (j * 2) cs.toList)))) = ys[1]? := hyel 1 _ rfl
  match ys, hy2 with
  | [y0, y1], _ =>
    rw [cells_int] at k0 k1
    simp only [List.getElem?_cons_zero, List.getElem?_cons_succ] at k0 k1
    obtain ⟨z0, e0, f0, _⟩ := DataW.trod_int Tryz.underlying3 k0
    obtain ⟨z1, e1, f1, _⟩ := DataW.trod_int Tryz.underlying3 k1
    have hk : (xs.map (·.1))[j]? = some (.agg [.lit (.int .i64 z0), .lit (.int .i64 z1)]) := by
      rw [List.getElem?_map, hxj, Option.map_some, hy]
      simp [f0, f1]
    rw [← hx.1, List.getElem?_map, List.getElem?_range hj] at hk
    simp at hk
    have q0 : cs.toList[j * 2]? = some (.int .i64 z0) := by
      have := congrArg (fun l => l[0]?) e0
      simpa [List.getElem?_take, List.getElem?_drop] using this
    have q1 : cs.toList[j * 2 + 1]? = some (.int .i64 z1) := by
      have := congrArg (fun l => l[0]?) e1
      simpa [List.getElem?_take, List.getElem?_drop] using this
    refine ⟨?_, ?_⟩
    · rw [World.var?_cell gS hv (j * 2), ← Array.getElem?_toList, q0, ← hk.1]
    · rw [World.var?_cell gS hv (j * 2 + 1), ← Array.getElem?_toList, q1, ← hk.2]
theorem tab_D {W : World} {cs : Array Value} {f : Nat} {q : List MemPlace} (hv : W.var? Tryz.prog "math/bits.deBruijn64tab" = some cs) (hd : DataW.trod (fun x => ()) Tryz.prog W 0 (fun x => true) false f 173 cs.toList = some (Rows.laid_math_bits_deBruijn64tab, q)) :
    ∀ j, j < 64 → W.cell? ⟨3, j, none⟩ = some (.int .u8 (Lib.deBruijn64tab.getD j 0)) := by
  obtain ⟨xs, m, rfl, hx, hlen, hn, hel⟩ := DataW.trod_array Tryz.underlying173 hd
  rw [laid_eqD] at hx
  simp only [Prod.mk.injEq, DataW.agg.injEq] at hx
  intro j hj
  have hj' := hel j hj
  have hxj : xs[j]? = some (xs[j]'(by omega)) := List.getElem?_eq_getElem (by omega)
  rw [hxj, cells_u8] at hj'
  obtain ⟨k, e1, e2, _⟩ := DataW.trod_int Tryz.underlying5 hj'
  have hk : (xs.map (·.1))[j]? = some (.lit (.int .u8 k)) := by rw [List.getElem?_map, hxj, Option.map_some, e2]
  rw [← hx.1, List.getElem?_map] at hk
  have hlt : j < Lib.deBruijn64tab.length := by rw [show Lib.deBruijn64tab.length = 64 from by decide +kernel]; exact hj
  rw [List.getElem?_eq_getElem hlt, Option.map_some] at hk
  simp at hk
  rw [World.var?_cell gD hv j]
  have e3 : cs.toList[j]? = some (.int .u8 k) := by
    have := congrArg (fun l => l[0]?) e1
    simp at this
    simpa using this
  rw [← Array.getElem?_toList, e3, ← hk]
  simp [List.getD_eq_getElem?_getD, List.getElem?_eq_getElem hlt]
theorem tab_of_laid {W : World} (h : laidMetH Tryz.prog laidL W) : Tab W := by
  rw [MakeChecks.laidMetH_plain _ _ _ (by kernel_rfl)] at h
  obtain ⟨ps, ⟨g1, t1, cs1, f1, p1, q1, hg1, ht1, hv1, hd1, hr1, _⟩, _, _⟩ := h
  obtain ⟨g2, t2, cs2, f2, p2, q2, hg2, ht2, hv2, hd2, hr2, _⟩ := hr1
  obtain ⟨g3, t3, cs3, f3, p3, q3, hg3, ht3, hv3, hd3, hr3, _⟩ := hr2
  obtain ⟨g4, t4, cs4, f4, p4, q4, hg4, ht4, hv4, hd4, _, _⟩ := hr3
  obtain rfl := Option.some.inj (gD.symm.trans hg1)
  obtain rfl := Option.some.inj (tD.symm.trans ht1)
  obtain rfl := Option.some.inj (gS.symm.trans hg2)
  obtain rfl := Option.some.inj (tS.symm.trans ht2)
  obtain rfl := Option.some.inj (gF.symm.trans hg3)
  obtain rfl := Option.some.inj (tF.symm.trans ht3)
  obtain rfl := Option.some.inj (gR.symm.trans hg4)
  obtain rfl := Option.some.inj (tR.symm.trans ht4)
  obtain ⟨a0, a1, a2⟩ := three hd3
  obtain ⟨b0, b1, b2⟩ := three hd4
  refine ⟨fun j hj => ?_, tab_S hv2 hd2, tab_D hv1 hd1⟩
  rw [World.var?_cell hg3 hv3 j, World.var?_cell hg4 hv4 j]
  have hj' : j = 0 ∨ j = 1 ∨ j = 2 := by omega
  rcases hj' with rfl | rfl | rfl
  · exact ⟨a0, b0⟩
  · exact ⟨a1, b1⟩
  · exact ⟨a2, b2⟩
end Go.Proofs.YtjbbkeoolodeaaaGreatDoor
