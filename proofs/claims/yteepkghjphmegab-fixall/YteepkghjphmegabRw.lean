import Derived.Test.YteepkghjphmegabFx
namespace Go.Proofs.Yteepkghjphmegab
open Go.ChangeShapes Go.WideShapes Go.ChangeAt Go.RowKit
set_option linter.unusedVariables false
set_option linter.unusedSimpArgs false

theorem tmod61 (v : Int) : (v.tmod 2305843009213693952 = v % 2305843009213693952 ∧ 0 ≤ v) ∨ (v.tmod 2305843009213693952 = -((-v) % 2305843009213693952) ∧ v < 0) := by
  by_cases h : 0 ≤ v
  · exact .inl ⟨Int.tmod_eq_emod_of_nonneg h, h⟩
  · refine .inr ⟨?_, by omega⟩
    have : v = -(-v) := by omega
    rw [this, Int.neg_tmod, Int.tmod_eq_emod_of_nonneg (by omega)]; omega

theorem refWrap_any (v : Int) (w : World) :
    Calls Try.prog 25 #[.int .i64 v] w fun e w' => e = .returned (.int .i64 (fwrap v)) ∧ w' = w := by
  have H := tmod61 v
  have hb : -2305843009213693952 < v.tmod 2305843009213693952 ∧ v.tmod 2305843009213693952 < 2305843009213693952 := by omega
  have HH : Hid ((v.tmod 2305843009213693952 = v % 2305843009213693952 ∧ 0 ≤ v) ∨ (v.tmod 2305843009213693952 = -((-v) % 2305843009213693952) ∧ v < 0)) := H
  clear H
  obtain ⟨hb1, hb2⟩ := hb
  go_enter Try.func25, Try.ntmps25
  go_wp2
  all_goals go_ret
  all_goals refine ⟨ret_int ?_, rfl⟩
  all_goals (have := HH.out; unfold fwrap; omega)

theorem refFits_any (v : Int) (w : World) :
    Calls Try.prog 46 #[.int .i64 v] w fun e w' => e = .returned (.bool (fitsB v)) ∧ w' = w := by
  go_enter Try.func46, Try.ntmps46
  go_wp2
  all_goals go_ret
  all_goals refine ⟨ret_bool ?_, rfl⟩
  all_goals (unfold fitsB; rw [Bool.eq_iff_iff]; simp; try omega)

theorem wrapped_any (v : Int) (w : World) :
    Calls Try.prog 31 #[.int .i64 v] w fun e w' => e = .returned (.bool true) ∧ w' = w := by
  go_enter Try.func31, Try.ntmps31
  go_wp2_with (first | (go_at_call 17; refine (fixWrap_any _ _).mono ?_; rintro e w' ⟨rfl, rfl⟩) | (go_at_call 25; refine (refWrap_any _ _).mono ?_; rintro e w' ⟨rfl, rfl⟩) | (go_at_call 18; refine (fixFits_any _ _).mono ?_; rintro e w' ⟨rfl, rfl⟩) | (go_at_call 46; refine (refFits_any _ _).mono ?_; rintro e w' ⟨rfl, rfl⟩))
  all_goals go_ret
  all_goals exact ⟨by first | rfl | simp, rfl⟩
end Go.Proofs.Yteepkghjphmegab
