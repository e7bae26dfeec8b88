/- layout: contracts -/
import Derived.Test.YtocncffplcfpbaaGreatDoorYag
namespace Go.Proofs.YtocncffplcfpbaaGreatDoor
open Go.RowKit
set_option linter.unusedVariables false
set_option linter.unusedSimpArgs false

theorem known_any (k : Int) (w : World) : Calls Tryz.prog 56 #[.int .i64 k] w fun e w' => e = .returned (.bool (knownB k)) ∧ w' = w := by
  go_enter Tryz.func56, Tryz.ntmps56
  go_wp2
  all_goals go_ret
  all_goals refine ⟨ret_bool ?_, rfl⟩
  all_goals (unfold knownB; rw [Bool.eq_iff_iff]; simp; try omega)
theorem numbered_any (k : Int) (w : World) : Calls Tryz.prog 35 #[.int .i64 k] w fun e w' => e = .returned (.bool (decide (1 ≤ k) && decide (k ≤ 11))) ∧ w' = w := by
  go_enter Tryz.func35, Tryz.ntmps35
  go_wp2
  all_goals go_ret
  all_goals refine ⟨ret_bool ?_, rfl⟩
  all_goals (rw [Bool.eq_iff_iff]; simp; try omega)
theorem visible_any (k : Int) (w : World) : Calls Tryz.prog 60 #[.int .i64 k] w fun e w' => e = .returned (.bool (decide (1 ≤ k) && decide (k ≤ 10))) ∧ w' = w := by
  go_enter Tryz.func60, Tryz.ntmps60
  go_wp2
  all_goals go_ret
  all_goals refine ⟨ret_bool ?_, rfl⟩
  all_goals (rw [Bool.eq_iff_iff]; simp; try omega)
theorem doubled_num : ∀ n : Fin 513, (decide (4 ≤ (n.val : Int)) && (bits .and .i64 (n.val : Int) ((n.val : Int) - 1) == 0)) = spineB (n.val : Int) := by decide +kernel
theorem doubled_any (n : Nat) (h : n ≤ 512) (w : World) : Calls Tryz.prog 57 #[.int .i64 n] w fun e w' => e = .returned (.bool (spineB n)) ∧ w' = w := by
  have H := doubled_num ⟨n, by omega⟩
  simp only at H
  rw [← H]
  by_cases h4 : 4 ≤ n
  · have h5 : (4 : Int) ≤ (n : Int) := by omega
    have h6 : wrap64 ((n : Int) - 1) = (n : Int) - 1 := by unfold wrap64; omega
    have hd : decide ((4 : Int) ≤ (n : Int)) = true := by simpa using h5
    rw [hd, Bool.true_and]
    clear H h4
    go_enter Tryz.func57, Tryz.ntmps57
    go_wp2
    go_ret
    exact ⟨rfl, rfl⟩
  · have h5 : (n : Int) < 4 := by omega
    have hd : decide ((4 : Int) ≤ (n : Int)) = false := by simp; omega
    rw [hd, Bool.false_and]
    clear H h4
    go_enter Tryz.func57, Tryz.ntmps57
    go_wp2
    go_ret
    exact ⟨rfl, rfl⟩
end Go.Proofs.YtocncffplcfpbaaGreatDoor
