/- one call of the script, whatever it asks -/
import Derived.Test.YteepkghjphmegabWAr6
import Derived.Test.YteepkghjphmegabWFr
import Derived.Test.YteepkghjphmegabWLt
import Derived.Test.YteepkghjphmegabTr
namespace Go.Proofs.Yteepkghjphmegab
open Go.ChangeShapes Go.WideShapes Go.ChangeAt Go.RowKit
set_option linter.unusedVariables false
set_option linter.unusedSimpArgs false

theorem sums_any (a0 a1 : Int) (w : World) (i1 : -9223372036854775808 ≤ a0) (i2 : a0 ≤ 9223372036854775807) (i3 : -9223372036854775808 ≤ a1) (i4 : a1 ≤ 9223372036854775807) :
    Calls Try.prog 34 #[.int .i64 a0, .int .i64 a1] w fun e w' => e = .returned (.bool true) ∧ Below w.heap.size w w' := by
  have h0 := Below.refl w.heap.size w
  have e1 := add_link a0 a1 i1 i2 i3 i4
  have e2 : floR .sub a0 a1 = subV a0 a1 := sub_link a0 a1 i1 i2 i3 i4
  go_enter Try.func34, Try.ntmps34
  go_wp2_with (first
    | (go_at_call 9; refine (calls_rel (alive_any _) (by assumption)).mono ?_; rintro e w1 ⟨rfl, hg⟩)
    | (go_at_call 23; refine (calls_rel (fixFloAdd_any _ _ _) (by assumption)).mono ?_; rintro e w1 ⟨rfl, hg⟩)
    | (go_at_call 54; refine (calls_rel (fixFloSub_any _ _ _) (by assumption)).mono ?_; rintro e w1 ⟨rfl, hg⟩)
    | (go_at_call 53; refine (calls_rel (refFloAdd_any _ _ _ i1 i2 i3 i4) (by assumption)).mono ?_; rintro e w1 ⟨rfl, hg⟩)
    | (go_at_call 55; refine (calls_rel (refFloSub_any _ _ _ i1 i2 i3 i4) (by assumption)).mono ?_; rintro e w1 ⟨rfl, hg⟩))
  all_goals go_ret
  all_goals exact ⟨by first | rfl | simp, by assumption⟩

theorem products_any (a0 a1 : Int) (w : World) (i1 : -9223372036854775808 ≤ a0) (i2 : a0 ≤ 9223372036854775807) (i3 : -9223372036854775808 ≤ a1) (i4 : a1 ≤ 9223372036854775807) :
    Calls Try.prog 35 #[.int .i64 a0, .int .i64 a1] w fun e w' => e = .returned (.bool true) ∧ Below w.heap.size w w' := by
  have h0 := Below.refl w.heap.size w
  have e1 := mul_link' a0 a1 i1 i2 i3 i4
  have e2 := div_link a0 a1 i1 i2 i3 i4
  go_enter Try.func35, Try.ntmps35
  go_wp2_with (first
    | (go_at_call 9; refine (calls_rel (alive_any _) (by assumption)).mono ?_; rintro e w1 ⟨rfl, hg⟩)
    | (go_at_call 56; refine (calls_rel (fixFloMul_any _ _ _) (by assumption)).mono ?_; rintro e w1 ⟨rfl, hg⟩)
    | (go_at_call 58; refine (calls_rel (fixFloDiv_any _ _ _) (by assumption)).mono ?_; rintro e w1 ⟨rfl, hg⟩)
    | (go_at_call 57; refine (calls_rel (refFloMul_any _ _ _ i1 i2 i3 i4) (by assumption)).mono ?_; rintro e w1 ⟨rfl, hg⟩)
    | (go_at_call 59; refine (calls_rel (refFloDiv_any _ _ _ i1 i2 i3 i4) (by assumption)).mono ?_; rintro e w1 ⟨rfl, hg⟩))
  all_goals go_ret
  all_goals exact ⟨by first | rfl | simp, by assumption⟩

theorem lesses_any (a0 a1 : Int) (w : World) (i1 : -9223372036854775808 ≤ a0) (i2 : a0 ≤ 9223372036854775807) (i3 : -9223372036854775808 ≤ a1) (i4 : a1 ≤ 9223372036854775807) :
    Calls Try.prog 36 #[.int .i64 a0, .int .i64 a1] w fun e w' => e = .returned (.bool true) ∧ Below w.heap.size w w' := by
  have h0 := Below.refl w.heap.size w
  have e1 := less_link a0 a1 i1 i2 i3 i4
  have e2 := less_link a1 a0 i3 i4 i1 i2
  go_enter Try.func36, Try.ntmps36
  go_wp2_with (first
    | (go_at_call 9; refine (calls_rel (alive_any _) (by assumption)).mono ?_; rintro e w1 ⟨rfl, hg⟩)
    | (go_at_call 21; refine (fixFloLess_any _ _ _).mono ?_; rintro e w1 ⟨rfl, rfl⟩)
    | (go_at_call 60; refine (calls_rel (refFloLess_any _ _ _ (by omega) (by omega) (by omega) (by omega)) (by assumption)).mono ?_; rintro e w1 ⟨rfl, hg⟩))
  all_goals go_ret
  all_goals exact ⟨by first | rfl | simp, by assumption⟩

theorem turns_any (a0 a1 : Int) (w : World) (i1 : -9223372036854775808 ≤ a0) (i2 : a0 ≤ 9223372036854775807) (i3 : -9223372036854775808 ≤ a1) (i4 : a1 ≤ 9223372036854775807) :
    Calls Try.prog 3 #[.int .i64 a0, .int .i64 a1] w fun e w' => e = .returned (.bool true) ∧ Below w.heap.size w w' := by
  obtain ⟨i1, i2⟩ : -9223372036854775808 ≤ a1 ∧ a1 ≤ 9223372036854775807 := ⟨i3, i4⟩
  have h0 := Below.refl w.heap.size w
  obtain ⟨r1, r2⟩ := toFlo_range (fwrap a0)
  go_enter Try.func3, Try.ntmps3
  go_wp2_with (first
    | (go_at_call 9; refine (calls_rel (alive_any _) (by assumption)).mono ?_; rintro e w1 ⟨rfl, hg⟩)
    | (go_at_call 10; refine calls_same (fixToFlo_any _ _) ?_)
    | (go_at_call 11; refine (calls_rel (refToFlo_any _ _) (by assumption)).mono ?_; rintro e w1 ⟨rfl, hg⟩)
    | (go_at_call 12; refine (calls_rel (fixed_any _ _ (by omega) (by omega)) (by assumption)).mono ?_; rintro e w1 ⟨rfl, hg⟩))
  all_goals go_ret
  all_goals exact ⟨by first | rfl | simp, by assumption⟩

end Go.Proofs.Yteepkghjphmegab
