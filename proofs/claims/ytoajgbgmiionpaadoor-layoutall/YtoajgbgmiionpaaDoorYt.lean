/- the listed table -/
import Derived.Test.YtoajgbgmiionpaaDoorRows
import Derived.Test.YtoajgbgmiionpaaDoorTie
import Derived.Test.YtoajgbgmiionpaaDoorYa
import Derived.ProofKit
import Derived.LaidMore
import Derived.OpenShut
import Derived.Stop.Joined
import Derived.SevenTiedAt
import Derived.ChangeArms
import Derived.Deep.Slices
import Derived.Lib.SmallJoins
namespace Go.Proofs.YtoajgbgmiionpaaDoor
open Go.ChangeShapes Go.WideShapes Go.ChangeAt Go.RowKit
set_option linter.unusedVariables false
set_option linter.unusedSimpArgs false

theorem own : ownKnob Tryd.prog.godebug = none := by kernel_rfl
theorem laid_out : laidOutB Tryd.prog = true := by kernel_rfl
theorem gTab : Tryd.prog.globalNamed "hearth/layout.shapes" = some 0 := by kernel_rfl
theorem tTab : (Tryd.prog.globals[0]?).map (·.type) = some 45 := by kernel_rfl
theorem cells_shape : Tryd.prog.cellsOf 44 = 2 := by kernel_rfl
theorem cells_int : Tryd.prog.cellsOf 3 = 1 := by kernel_rfl
def laidL : List (String × DataW Unit) := [("hearth/layout.shapes", Rows.laid_hearth_layout_shapes)]
theorem laid_eq : (Rows.laid_hearth_layout_shapes : DataW Unit) = .agg ((List.range 14).map fun (j : Nat) => .agg [.lit (.int .i64 (wd j)), .lit (.int .i64 (mo j))]) := by kernel_rfl
theorem door_met (os : Os) (args : Array Value) : laidMetH Tryd.prog laidL ((World.doorLaid Tryd.prog 400 os).forCall (fun _ _ => 0) ⟨#[], args, []⟩).memory :=
  laidMetH_of_parts3 (fuel := 8) (laidMet_of_run' 8 (by kernel_rfl) (by kernel_rfl)) (by kernel_rfl) (by kernel_rfl)
theorem tab_of_laid {W : World} (h : laidMetH Tryd.prog laidL W) : Tab W := by
  rw [MakeChecks.laidMetH_plain _ _ _ (by kernel_rfl)] at h
  obtain ⟨ps, ⟨g, t, cs, f, p, q, hg, ht, hv, hd, _, _⟩, _, _⟩ := h
  obtain rfl := Option.some.inj (gTab.symm.trans hg)
  obtain rfl := Option.some.inj (tTab.symm.trans ht)
  obtain ⟨xs, m, rfl, hx, hlen, hn, hel⟩ := DataW.trod_array Tryd.underlying45 hd
  rw [laid_eq] at hx
  simp only [Prod.mk.injEq, DataW.agg.injEq] at hx
  intro j hj
  have hj' := hel j hj
  have hxj : xs[j]? = some (xs[j]'(by omega)) := List.getElem?_eq_getElem (by omega)
  rw [hxj, cells_shape] at hj'
  obtain ⟨ys, m2, rfl, hy, hylen, hyn, hyel⟩ := DataW.trod_struct Tryd.underlying44 hj'
  have hy2 : ys.length = 2 := hyn
  have k0 : DataW.trod (fun x => ()) Tryd.prog W 0 (fun x => true) false m2 3 (List.take (Tryd.prog.cellsOf 3) (List.drop 0 (List.take 2 (List.drop (j * 2) cs.toList)))) = ys[0]? := hyel 0 _ rfl
  have k1 : DataW.trod (fun x => ()) Tryd.prog W 0 (fun x => true) false m2 3 (List.take (Tryd.prog.cellsOf 3) (List.drop 1 (List.take 2 (List.drop (j * 2) cs.toList)))) = ys[1]? := hyel 1 _ rfl
  match ys, hy2 with
  | [y0, y1], _ =>
    rw [cells_int] at k0 k1
    simp only [List.getElem?_cons_zero, List.getElem?_cons_succ] at k0 k1
    obtain ⟨z0, e0, f0, _⟩ := DataW.trod_int Tryd.underlying3 k0
    obtain ⟨z1, e1, f1, _⟩ := DataW.trod_int Tryd.underlying3 k1
    have hk : (xs.map (·.1))[j]? = some (.agg [.lit (.int .i64 z0), .lit (.int .i64 z1)]) := by
      rw [List.getElem?_map, hxj, Option.map_some, hy]
      simp [f0, f1]
    rw [← hx.1, List.getElem?_map, List.getElem?_range hj] at hk
    simp at hk
    have q0 : cs.toList[j * 2]? = some (.int .i64 z0) := by
      have := congrArg (fun l => l[0]?) e0
      simpa [List.getElem?_take, List.getElem?_drop] using this
    have q1 : cs.toList[j * 2 + 1]? = some (.int .i64 z1) := by
      have := congrArg (fun l => l[0]?) e1
      simpa [List.getElem?_take, List.getElem?_drop] using this
    refine ⟨?_, ?_⟩
    · rw [World.var?_cell hg hv (j * 2), ← Array.getElem?_toList, q0, ← hk.1]
    · rw [World.var?_cell hg hv (j * 2 + 1), ← Array.getElem?_toList, q1, ← hk.2]
end Go.Proofs.YtoajgbgmiionpaaDoor
