/- the listed tables -/
import Derived.Test.YtocncffplcfpbaaGreatDoorRows
import Derived.Test.YtocncffplcfpbaaGreatDoorTie
import Derived.Test.YtocncffplcfpbaaGreatDoorGra
import Derived.ProofKit
import Derived.LaidMore
import Derived.OpenShut
import Derived.Lay
import Derived.Stop.LaidErr
import Derived.Stop.Joined
import Derived.SevenTiedAt
import Derived.ChangeArms
import Derived.Deep.Slices
import Derived.Lib.SmallJoins
namespace Go.Proofs.YtocncffplcfpbaaGreatDoor
open Go.ChangeShapes Go.WideShapes Go.ChangeAt Go.RowKit
set_option linter.unusedVariables false
set_option linter.unusedSimpArgs false
set_option maxRecDepth 100000

theorem own : ownKnob Tryz.prog.godebug = none := by kernel_rfl
theorem laid_out : laidOutB Tryz.prog = true := by kernel_rfl
theorem cells_intT : Tryz.prog.cellsOf 3 = 1 := by kernel_rfl
def laidL : List (String × DataW Unit) := [("hearth/layout.shapes", Rows.laid_hearth_layout_shapes), ("hearth/graph.forms", Rows.laid_hearth_graph_forms)]
theorem door_met (os : Os) (args : Array Value) : laidMetH Tryz.prog laidL ((World.laidAll Tryz.prog os laidL).forCall (fun _ _ => 0) ⟨#[], args, []⟩).memory := by
  rw [MakeChecks.laidMetH_plain _ _ _ (by kernel_rfl)]
  exact laidMet_laidAll _ (by kernel_rfl) (by kernel_rfl)
theorem gTabS : Tryz.prog.globalNamed "hearth/layout.shapes" = some 1 := by kernel_rfl
theorem tTabS : (Tryz.prog.globals[1]?).map (·.type) = some 115 := by kernel_rfl
theorem cells_sS : Tryz.prog.cellsOf 114 = 2 := by kernel_rfl
theorem laid_eqS : (Rows.laid_hearth_layout_shapes : DataW Unit) = .agg ((List.range 14).map fun (j : Nat) => .agg [.lit (.int .i64 (wd j)), .lit (.int .i64 (mo j))]) := by kernel_rfl
theorem tabS {W : World} {rest : List (String × DataW Unit)} (h : laidMet Tryz.prog (("hearth/layout.shapes", Rows.laid_hearth_layout_shapes) :: rest) W) (j : Nat) (hj : j < 14) : W.cell? ⟨1, j * 2, none⟩ = some (.int .i64 (wd j)) ∧ W.cell? ⟨1, j * 2 + 1, none⟩ = some (.int .i64 (mo j)) := by
  obtain ⟨ps, ⟨g, t, cs, f, p, q, hg, ht, hv, hd, _, _⟩, _⟩ := h
  obtain rfl := Option.some.inj (gTabS.symm.trans hg)
  obtain rfl := Option.some.inj (tTabS.symm.trans ht)
  obtain ⟨xs, m, rfl, hx, hlen, hn, hel⟩ := DataW.trod_array Tryz.underlying115 hd
  rw [laid_eqS] at hx
  simp only [Prod.mk.injEq, DataW.agg.injEq] at hx
  have hj' := hel j hj
  have hxj : xs[j]? = some (xs[j]'(by omega)) := List.getElem?_eq_getElem (by omega)
  rw [hxj, cells_sS] at hj'
  obtain ⟨ys, m2, rfl, hy, hylen, hyn, hyel⟩ := DataW.trod_struct Tryz.underlying114 hj'
  have hy2 : ys.length = 2 := hyn
  have k0 : DataW.trod (fun x => ()) Tryz.prog W 0 (fun x => true) false m2 3 (List.take (Tryz.prog.cellsOf 3) (List.drop 0 (List.take 2 (List.drop (j * 2) cs.toList)))) = ys[0]? := hyel 0 _ rfl
  have k1 : DataW.trod (fun x => ()) Tryz.prog W 0 (fun x => true) false m2 3 (List.take (Tryz.prog.cellsOf 3) (List.drop 1 (List.take 2 (List.drop (j * 2) cs.toList)))) = ys[1]? := hyel 1 _ rfl
  match ys, hy2 with
  | [y0, y1], _ =>
    rw [cells_intT] at k0 k1
    simp only [List.getElem?_cons_zero, List.getElem?_cons_succ] at k0 k1
    obtain ⟨z0, e0, f0, _⟩ := DataW.trod_int Tryz.underlying3 k0
    obtain ⟨z1, e1, f1, _⟩ := DataW.trod_int Tryz.underlying3 k1
    have hk : (xs.map (·.1))[j]? = some (.agg [.lit (.int .i64 z0), .lit (.int .i64 z1)]) := by
      rw [List.getElem?_map, hxj, Option.map_some, hy]
      simp [f0, f1]
    rw [← hx.1, List.getElem?_map, List.getElem?_range hj] at hk
    simp at hk
    have q0 : cs.toList[j * 2]? = some (.int .i64 z0) := by
      have := congrArg (fun l => l[0]?) e0
      simpa [List.getElem?_take, List.getElem?_drop] using this
    have q1 : cs.toList[j * 2 + 1]? = some (.int .i64 z1) := by
      have := congrArg (fun l => l[0]?) e1
      simpa [List.getElem?_take, List.getElem?_drop] using this
    refine ⟨?_, ?_⟩
    · rw [World.var?_cell hg hv (j * 2), ← Array.getElem?_toList, q0, ← hk.1]
    · rw [World.var?_cell hg hv (j * 2 + 1), ← Array.getElem?_toList, q1, ← hk.2]
theorem gTabF : Tryz.prog.globalNamed "hearth/graph.forms" = some 0 := by kernel_rfl
theorem tTabF : (Tryz.prog.globals[0]?).map (·.type) = some 89 := by kernel_rfl
theorem cells_sF : Tryz.prog.cellsOf 88 = 2 := by kernel_rfl
theorem laid_eqF : (Rows.laid_hearth_graph_forms : DataW Unit) = .agg ((List.range 12).map fun (j : Nat) => .agg [.lit (.int .i64 (fr j)), .lit (.int .i64 (ff j))]) := by kernel_rfl
theorem tabF {W : World} {rest : List (String × DataW Unit)} (h : laidMet Tryz.prog (("hearth/graph.forms", Rows.laid_hearth_graph_forms) :: rest) W) (j : Nat) (hj : j < 12) : W.cell? ⟨0, j * 2, none⟩ = some (.int .i64 (fr j)) ∧ W.cell? ⟨0, j * 2 + 1, none⟩ = some (.int .i64 (ff j)) := by
  obtain ⟨ps, ⟨g, t, cs, f, p, q, hg, ht, hv, hd, _, _⟩, _⟩ := h
  obtain rfl := Option.some.inj (gTabF.symm.trans hg)
  obtain rfl := Option.some.inj (tTabF.symm.trans ht)
  obtain ⟨xs, m, rfl, hx, hlen, hn, hel⟩ := DataW.trod_array Tryz.underlying89 hd
  rw [laid_eqF] at hx
  simp only [Prod.mk.injEq, DataW.agg.injEq] at hx
  have hj' := hel j hj
  have hxj : xs[j]? = some (xs[j]'(by omega)) := List.getElem?_eq_getElem (by omega)
  rw [hxj, cells_sF] at hj'
  obtain ⟨ys, m2, rfl, hy, hylen, hyn, hyel⟩ := DataW.trod_struct Tryz.underlying88 hj'
  have hy2 : ys.length = 2 := hyn
  have k0 : DataW.trod (fun x => ()) Tryz.prog W 0 (fun x => true) false m2 3 (List.take (Tryz.prog.cellsOf 3) (List.drop 0 (List.take 2 (List.drop (j * 2) cs.toList)))) = ys[0]? := hyel 0 _ rfl
  have k1 : DataW.trod (fun x => ()) Tryz.prog W 0 (fun x => true) false m2 3 (List.take (Tryz.prog.cellsOf 3) (List.drop 1 (List.take 2 (List.drop (j * 2) cs.toList)))) = ys[1]? := hyel 1 _ rfl
  match ys, hy2 with
  | [y0, y1], _ =>
    rw [cells_intT] at k0 k1
    simp only [List.getElem?_cons_zero, List.getElem?_cons_succ] at k0 k1
    obtain ⟨z0, e0, f0, _⟩ := DataW.trod_int Tryz.underlying3 k0
    obtain ⟨z1, e1, f1, _⟩ := DataW.trod_int Tryz.underlying3 k1
    have hk : (xs.map (·.1))[j]? = some (.agg [.lit (.int .i64 z0), .lit (.int .i64 z1)]) := by
      rw [List.getElem?_map, hxj, Option.map_some, hy]
      simp [f0, f1]
    rw [← hx.1, List.getElem?_map, List.getElem?_range hj] at hk
    simp at hk
    have q0 : cs.toList[j * 2]? = some (.int .i64 z0) := by
      have := congrArg (fun l => l[0]?) e0
      simpa [List.getElem?_take, List.getElem?_drop] using this
    have q1 : cs.toList[j * 2 + 1]? = some (.int .i64 z1) := by
      have := congrArg (fun l => l[0]?) e1
      simpa [List.getElem?_take, List.getElem?_drop] using this
    refine ⟨?_, ?_⟩
    · rw [World.var?_cell hg hv (j * 2), ← Array.getElem?_toList, q0, ← hk.1]
    · rw [World.var?_cell hg hv (j * 2 + 1), ← Array.getElem?_toList, q1, ← hk.2]
theorem in_heap {w : World} {b o : Nat} {v : Value} (h : w.cell? ⟨b, o, none⟩ = some v) : b < w.heap.size := by
  by_cases hb : b < w.heap.size
  · exact hb
  · have : w.heap[b]? = none := by simp; omega
    simp [World.cell?, this] at h
theorem tab_of_laid {W : World} (h : laidMetH Tryz.prog laidL W) : Tab W := by
  rw [MakeChecks.laidMetH_plain _ _ _ (by kernel_rfl)] at h
  have h1 := tabS h
  have h2 := tabF h.tail
  refine ⟨?_, h1, h2⟩
  have a1 := in_heap (h1 0 (by decide)).1
  have a2 := in_heap (h2 0 (by decide)).1
  omega
end Go.Proofs.YtocncffplcfpbaaGreatDoor
