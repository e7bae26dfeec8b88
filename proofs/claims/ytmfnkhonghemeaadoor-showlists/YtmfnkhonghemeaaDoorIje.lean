/- ShowLists: the whole -/
import Derived.Test.YtmfnkhonghemeaaDoorIjd
import Derived.Test.YtmfnkhonghemeaaDoorIt
import Derived.ChangeArms
namespace Go.Proofs.YtmfnkhonghemeaaDoor
open Go.ChangeShapes Go.WideShapes Go.ChangeAt Go.RowKit
set_option linter.unusedVariables false
set_option linter.unusedSimpArgs false
set_option maxRecDepth 100000

theorem gImm : Tryd.prog.globalNamed "hearth/show.immediates" = some 0 := by kernel_rfl
theorem tImm : (Tryd.prog.globals[0]?).map (·.type) = some 88 := by kernel_rfl
theorem cells_str : Tryd.prog.cellsOf 9 = 1 := by kernel_rfl
theorem imm_at {W : World} {rest : List (String × DataW Unit)} (h : laidMet Tryd.prog (("hearth/show.immediates", Rows.laid_hearth_show_immediates) :: rest) W) : W.cell? ⟨0, 0, none⟩ = some (.string ⟨#[40, 41]⟩) := by
  obtain ⟨ps, ⟨g, t, cs, f, p, q, hg, ht, hv, hd, _, _⟩, _⟩ := h
  obtain rfl := Option.some.inj (gImm.symm.trans hg)
  obtain rfl := Option.some.inj (tImm.symm.trans ht)
  obtain ⟨xs, m, rfl, hx, hlen, hn, hel⟩ := DataW.trod_array Tryd.underlying88 hd
  simp only [Rows.laid_hearth_show_immediates, Prod.mk.injEq, DataW.agg.injEq] at hx
  have h0 := hel 0 (by decide)
  have hx0 : xs[0]? = some (xs[0]'(by omega)) := List.getElem?_eq_getElem (by omega)
  rw [hx0, cells_str] at h0
  obtain ⟨s, e0, f0, _⟩ := DataW.trod_string Tryd.underlying9 h0
  have hk : (xs.map (·.1))[0]? = some (.lit (.string s.data.toList)) := by rw [List.getElem?_map, hx0, f0]; rfl
  rw [← hx.1] at hk
  simp at hk
  have hs : s = ⟨#[40, 41]⟩ := by
    cases s with
    | mk a => simp at hk; congr 1; exact Array.toList_inj.1 hk.symm
  subst hs
  have q0 : cs.toList[0]? = some (.string ⟨#[40, 41]⟩) := by
    have := congrArg (fun l => l[0]?) e0
    simpa [List.getElem?_take, List.getElem?_drop] using this
  rw [World.var?_cell hg hv 0, ← Array.getElem?_toList, q0]
set_option maxHeartbeats 2000000 in
theorem lists_any {W : World} {n : Int} (hT : WT W) : Calls Tryd.prog 3 #[.int .i64 n] W fun e w' => e = .returned (.bool true) ∧ Out 0 0 W w' := by
  by_cases hn : 1 ≤ n ∧ n ≤ 600
  · obtain ⟨N, rfl⟩ : ∃ N : Nat, n = (N : Int) := ⟨n.toNat, by omega⟩
    exact lists_at ⟨by omega, by omega⟩ hT hT.two
  · have HA := hid_mk (alive_any hT.1)
    clear hT
    by_cases h1 : n < 1
    · clear hn
      go_enter Tryd.func3, Tryd.ntmps3
      go_wp2_with (go_at_call 4; refine HA.out.mono ?_; rintro e w1 ⟨rfl, o1⟩)
      go_ret
      exact ⟨rfl, o1⟩
    · have h2 : 600 < n := by omega
      clear hn
      go_enter Tryd.func3, Tryd.ntmps3
      go_wp2_with (go_at_call 4; refine HA.out.mono ?_; rintro e w1 ⟨rfl, o1⟩)
      go_ret
      exact ⟨rfl, o1⟩
theorem wt_of_laid {W : World} (h : laidMetH Tryd.prog laidL W) : WT W := by
  refine ⟨tab_of_laid h, ?_⟩
  rw [MakeChecks.laidMetH_plain _ _ _ (by kernel_rfl)] at h
  exact imm_at h.tail.tail.tail.tail
end Go.Proofs.YtmfnkhonghemeaaDoor
