/- layout: contracts -/
import Derived.Test.YtoajgbgmiionpaaDoorYa
namespace Go.Proofs.YtoajgbgmiionpaaDoor
open Go.RowKit
set_option linter.unusedVariables false
set_option linter.unusedSimpArgs false

theorem known_any (k : Int) (w : World) : Calls Tryd.prog 30 #[.int .i64 k] w fun e w' => e = .returned (.bool (knownB k)) ∧ w' = w := by
  go_enter Tryd.func30, Tryd.ntmps30
  go_wp2
  all_goals go_ret
  all_goals refine ⟨ret_bool ?_, rfl⟩
  all_goals (unfold knownB; rw [Bool.eq_iff_iff]; simp; try omega)
theorem visible_any (k : Int) (w : World) : Calls Tryd.prog 20 #[.int .i64 k] w fun e w' => e = .returned (.bool (decide (1 ≤ k) && decide (k ≤ 10))) ∧ w' = w := by
  go_enter Tryd.func20, Tryd.ntmps20
  go_wp2
  all_goals go_ret
  all_goals refine ⟨ret_bool ?_, rfl⟩
  all_goals (rw [Bool.eq_iff_iff]; simp; try omega)
theorem numbered_any (k : Int) (w : World) : Calls Tryd.prog 21 #[.int .i64 k] w fun e w' => e = .returned (.bool (decide (1 ≤ k) && decide (k ≤ 11))) ∧ w' = w := by
  go_enter Tryd.func21, Tryd.ntmps21
  go_wp2
  all_goals go_ret
  all_goals refine ⟨ret_bool ?_, rfl⟩
  all_goals (rw [Bool.eq_iff_iff]; simp; try omega)
theorem refVisible_any (k : Int) (w : World) : Calls Tryd.prog 24 #[.int .i64 k] w fun e w' => e = .returned (.bool (decide (1 ≤ k) && decide (k ≤ 10))) ∧ w' = w := by
  go_enter Tryd.func24, Tryd.ntmps24
  go_wp2
  all_goals go_ret
  all_goals refine ⟨ret_bool ?_, rfl⟩
  all_goals (rw [Bool.eq_iff_iff]; simp; try omega)
theorem refNumbered_any (k : Int) (w : World) : Calls Tryd.prog 25 #[.int .i64 k] w fun e w' => e = .returned (.bool (decide (1 ≤ k) && decide (k ≤ 11))) ∧ w' = w := by
  go_enter Tryd.func25, Tryd.ntmps25
  go_wp2
  all_goals go_ret
  all_goals refine ⟨ret_bool ?_, rfl⟩
  all_goals (rw [Bool.eq_iff_iff]; simp; try omega)
theorem doubled_num : ∀ n : Fin 513, (decide (4 ≤ (n.val : Int)) && (bits .and .i64 (n.val : Int) ((n.val : Int) - 1) == 0)) = spineB (n.val : Int) := by decide +kernel
theorem doubled_any (n : Nat) (h : n ≤ 512) (w : World) : Calls Tryd.prog 31 #[.int .i64 n] w fun e w' => e = .returned (.bool (spineB n)) ∧ w' = w := by
  have H := doubled_num ⟨n, by omega⟩
  simp only at H
  rw [← H]
  by_cases h4 : 4 ≤ n
  · have h5 : (4 : Int) ≤ (n : Int) := by omega
    have h6 : wrap64 ((n : Int) - 1) = (n : Int) - 1 := by unfold wrap64; omega
    have hd : decide ((4 : Int) ≤ (n : Int)) = true := by simpa using h5
    rw [hd, Bool.true_and]
    clear H h4
    go_enter Tryd.func31, Tryd.ntmps31
    go_wp2
    go_ret
    exact ⟨rfl, rfl⟩
  · have h5 : (n : Int) < 4 := by omega
    have hd : decide ((4 : Int) ≤ (n : Int)) = false := by simp; omega
    rw [hd, Bool.false_and]
    clear H h4
    go_enter Tryd.func31, Tryd.ntmps31
    go_wp2
    go_ret
    exact ⟨rfl, rfl⟩
theorem frame_any (i : Int) (w : World) : Calls Tryd.prog 34 #[.int .i64 i] w fun e w' => e = .returned (.int .i64 (frameW i)) ∧ w' = w := by
  go_enter Tryd.func34, Tryd.ntmps34
  go_wp2
  all_goals go_ret
  all_goals refine ⟨ret_int ?_, rfl⟩
  all_goals (unfold frameW; simp [*])
theorem role_any (k i : Int) (w : World) : Calls Tryd.prog 28 #[.int .i64 k, .int .i64 i] w fun e w' => e = .returned (.int .i64 (roleW k i)) ∧ w' = w := by
  have HF := hid_mk (frame_any i)
  go_enter Tryd.func28, Tryd.ntmps28
  go_wp2_with (go_at_call 34; refine calls_same (HF.out _) ?_)
  all_goals go_ret
  all_goals refine ⟨ret_int ?_, rfl⟩
  all_goals (unfold roleW; simp [*]; try (intro hh; omega))
end Go.Proofs.YtoajgbgmiionpaaDoor
