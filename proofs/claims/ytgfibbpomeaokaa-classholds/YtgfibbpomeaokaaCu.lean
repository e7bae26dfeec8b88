/- ClassHolds -/
import Derived.Test.YtgfibbpomeaokaaCs
import Derived.Deep.RegionWith
namespace Go.Proofs.Ytgfibbpomeaokaa
open Go.ChangeShapes Go.WideShapes Go.ChangeAt Go.RowKit
set_option linter.unusedVariables false
set_option linter.unusedSimpArgs false
set_option maxHeartbeats 800000 in
theorem holds_none (a0 : Int) (w : World) (hc : a0 < 1) : Calls Try.prog 7 #[.int .i64 a0] w fun e w' => e = .returned (.bool true) ∧ Below w.heap.size w w' := by
  have b0 := Below.refl w.heap.size w
  have HO := hid_mk (of_at a0 (-1) (ofV_out (.inl hc)))
  have HP := hid_mk (pages_any a0)
  have hp : pagesV a0 = 0 := by unfold pagesV; rw [if_neg (by omega)]
  rw [hp] at HP
  clear hp
  go_enter Try.func7, Try.ntmps7
  go_wp2_with (first
    | (go_at_call 9; refine (calls_rel (alive_any _) (by assumption)).mono ?_; rintro e w1 ⟨rfl, hg⟩)
    | (go_at_call 14; refine (calls_rel (HO.out _) (by assumption)).mono ?_; rintro e w1 ⟨rfl, hg⟩)
    | (go_at_call 15; refine (calls_rel (HP.out _) (by assumption)).mono ?_; rintro e w1 ⟨rfl, hg⟩))
  go_ret
  exact ⟨rfl, by assumption⟩
set_option maxHeartbeats 800000 in
theorem holds_more (a0 : Int) (w : World) (hc : 1024 < a0) : Calls Try.prog 7 #[.int .i64 a0] w fun e w' => e = .returned (.bool true) ∧ Below w.heap.size w w' := by
  have b0 := Below.refl w.heap.size w
  have HO := hid_mk (of_at a0 (-1) (ofV_out (.inr hc)))
  have HP := hid_mk (pages_any a0)
  have hp : pagesV a0 = 0 := by unfold pagesV; rw [if_neg (by omega)]
  rw [hp] at HP
  clear hp
  have d1 : decide (a0 < 1) = false := by rw [decide_eq_false_iff_not]; omega
  have d2 : decide (1024 < a0) = true := by rw [decide_eq_true_eq]; omega
  go_enter Try.func7, Try.ntmps7
  go_wp2_with (first
    | (go_at_call 9; refine (calls_rel (alive_any _) (by assumption)).mono ?_; rintro e w1 ⟨rfl, hg⟩)
    | (go_at_call 14; refine (calls_rel (HO.out _) (by assumption)).mono ?_; rintro e w1 ⟨rfl, hg⟩)
    | (go_at_call 15; refine (calls_rel (HP.out _) (by assumption)).mono ?_; rintro e w1 ⟨rfl, hg⟩))
  go_ret
  exact ⟨rfl, by assumption⟩
set_option maxHeartbeats 800000 in
theorem holds_pages (a0 : Int) (w : World) (h1 : 32 < a0) (h2 : a0 ≤ 1024) : Calls Try.prog 7 #[.int .i64 a0] w fun e w' => e = .returned (.bool true) ∧ Below w.heap.size w w' := by
  have b0 := Below.refl w.heap.size w
  have HO := hid_mk (of_at a0 8 (ofV_eight.2 ⟨h1, h2⟩))
  have HP := hid_mk (pages_any a0)
  have hp : pagesV a0 = (a0 + 63) / 64 := by unfold pagesV; rw [if_pos ⟨h1, h2⟩]
  have hq : 0 < pagesV a0 ∧ pagesV a0 ≤ 16 ∧ a0 ≤ 64 * pagesV a0 ∧ 64 * (pagesV a0 - 1) < a0 := by rw [hp]; omega
  clear hp
  generalize pagesV a0 = n at *
  obtain ⟨n1, n2, n3, n4⟩ := hq
  have d1 : decide (a0 < 1) = false := by rw [decide_eq_false_iff_not]; omega
  have d2 : decide (1024 < a0) = false := by rw [decide_eq_false_iff_not]; omega
  go_enter Try.func7, Try.ntmps7
  go_wp2_with (first
    | (go_at_call 9; refine (calls_rel (alive_any _) (by assumption)).mono ?_; rintro e w1 ⟨rfl, hg⟩)
    | (go_at_call 14; refine (calls_rel (HO.out _) (by assumption)).mono ?_; rintro e w1 ⟨rfl, hg⟩)
    | (go_at_call 15; refine (calls_rel (HP.out _) (by assumption)).mono ?_; rintro e w1 ⟨rfl, hg⟩))
  go_ret
  exact ⟨rfl, by assumption⟩
set_option maxHeartbeats 800000 in
theorem holds_0 (a0 : Int) (w : World) (h1 : 1 ≤ a0) (h2 : a0 ≤ 2) : Calls Try.prog 7 #[.int .i64 a0] w fun e w' => e = .returned (.bool true) ∧ Below w.heap.size w w' := by
  have b0 := Below.refl w.heap.size w
  have HP := hid_mk (pages_any a0)
  have hp : pagesV a0 = 0 := by unfold pagesV; rw [if_neg (by omega)]
  rw [hp] at HP
  have HO := hid_mk (of_at a0 0 (by unfold ofV; omega))
  have HW := hid_mk (words_at 0 2 rfl)
  clear hp
  go_enter Try.func7, Try.ntmps7
  go_wp2_with (first
    | (go_at_call 9; refine (calls_rel (alive_any _) (by assumption)).mono ?_; rintro e w1 ⟨rfl, hg⟩)
    | (go_at_call 14; refine (calls_rel (HO.out _) (by assumption)).mono ?_; rintro e w1 ⟨rfl, hg⟩)
    | (go_at_call 15; refine (calls_rel (HP.out _) (by assumption)).mono ?_; rintro e w1 ⟨rfl, hg⟩)
    | (go_at_call_of 12 (Value.int IntKind.i64 0); refine (calls_rel (HW.out _) (by assumption)).mono ?_; rintro e w1 ⟨rfl, hg⟩))
  go_ret
  refine ⟨ret_bool ?_, by assumption⟩
  first | rfl | (rw [decide_eq_true_eq]; omega)
set_option maxHeartbeats 800000 in
theorem holds_1 (a0 : Int) (w : World) (h1 : 3 ≤ a0) (h2 : a0 ≤ 4) : Calls Try.prog 7 #[.int .i64 a0] w fun e w' => e = .returned (.bool true) ∧ Below w.heap.size w w' := by
  have b0 := Below.refl w.heap.size w
  have HP := hid_mk (pages_any a0)
  have hp : pagesV a0 = 0 := by unfold pagesV; rw [if_neg (by omega)]
  rw [hp] at HP
  have HO := hid_mk (of_at a0 1 (by unfold ofV; omega))
  have HW := hid_mk (words_at 1 4 rfl)
  have HX := hid_mk (words_at 0 2 rfl)
  clear hp
  go_enter Try.func7, Try.ntmps7
  go_wp2_with (first
    | (go_at_call 9; refine (calls_rel (alive_any _) (by assumption)).mono ?_; rintro e w1 ⟨rfl, hg⟩)
    | (go_at_call 14; refine (calls_rel (HO.out _) (by assumption)).mono ?_; rintro e w1 ⟨rfl, hg⟩)
    | (go_at_call 15; refine (calls_rel (HP.out _) (by assumption)).mono ?_; rintro e w1 ⟨rfl, hg⟩)
    | (go_at_call_of 12 (Value.int IntKind.i64 1); refine (calls_rel (HW.out _) (by assumption)).mono ?_; rintro e w1 ⟨rfl, hg⟩)
    | (go_at_call_of 12 (Value.int IntKind.i64 0); refine (calls_rel (HX.out _) (by assumption)).mono ?_; rintro e w1 ⟨rfl, hg⟩))
  go_ret
  refine ⟨ret_bool ?_, by assumption⟩
  first | rfl | (rw [decide_eq_true_eq]; omega)
set_option maxHeartbeats 800000 in
theorem holds_2 (a0 : Int) (w : World) (h1 : 5 ≤ a0) (h2 : a0 ≤ 6) : Calls Try.prog 7 #[.int .i64 a0] w fun e w' => e = .returned (.bool true) ∧ Below w.heap.size w w' := by
  have b0 := Below.refl w.heap.size w
  have HP := hid_mk (pages_any a0)
  have hp : pagesV a0 = 0 := by unfold pagesV; rw [if_neg (by omega)]
  rw [hp] at HP
  have HO := hid_mk (of_at a0 2 (by unfold ofV; omega))
  have HW := hid_mk (words_at 2 6 rfl)
  have HX := hid_mk (words_at 1 4 rfl)
  clear hp
  go_enter Try.func7, Try.ntmps7
  go_wp2_with (first
    | (go_at_call 9; refine (calls_rel (alive_any _) (by assumption)).mono ?_; rintro e w1 ⟨rfl, hg⟩)
    | (go_at_call 14; refine (calls_rel (HO.out _) (by assumption)).mono ?_; rintro e w1 ⟨rfl, hg⟩)
    | (go_at_call 15; refine (calls_rel (HP.out _) (by assumption)).mono ?_; rintro e w1 ⟨rfl, hg⟩)
    | (go_at_call_of 12 (Value.int IntKind.i64 2); refine (calls_rel (HW.out _) (by assumption)).mono ?_; rintro e w1 ⟨rfl, hg⟩)
    | (go_at_call_of 12 (Value.int IntKind.i64 1); refine (calls_rel (HX.out _) (by assumption)).mono ?_; rintro e w1 ⟨rfl, hg⟩))
  go_ret
  refine ⟨ret_bool ?_, by assumption⟩
  first | rfl | (rw [decide_eq_true_eq]; omega)
set_option maxHeartbeats 800000 in
theorem holds_3 (a0 : Int) (w : World) (h1 : 7 ≤ a0) (h2 : a0 ≤ 8) : Calls Try.prog 7 #[.int .i64 a0] w fun e w' => e = .returned (.bool true) ∧ Below w.heap.size w w' := by
  have b0 := Below.refl w.heap.size w
  have HP := hid_mk (pages_any a0)
  have hp : pagesV a0 = 0 := by unfold pagesV; rw [if_neg (by omega)]
  rw [hp] at HP
  have HO := hid_mk (of_at a0 3 (by unfold ofV; omega))
  have HW := hid_mk (words_at 3 8 rfl)
  have HX := hid_mk (words_at 2 6 rfl)
  clear hp
  go_enter Try.func7, Try.ntmps7
  go_wp2_with (first
    | (go_at_call 9; refine (calls_rel (alive_any _) (by assumption)).mono ?_; rintro e w1 ⟨rfl, hg⟩)
    | (go_at_call 14; refine (calls_rel (HO.out _) (by assumption)).mono ?_; rintro e w1 ⟨rfl, hg⟩)
    | (go_at_call 15; refine (calls_rel (HP.out _) (by assumption)).mono ?_; rintro e w1 ⟨rfl, hg⟩)
    | (go_at_call_of 12 (Value.int IntKind.i64 3); refine (calls_rel (HW.out _) (by assumption)).mono ?_; rintro e w1 ⟨rfl, hg⟩)
    | (go_at_call_of 12 (Value.int IntKind.i64 2); refine (calls_rel (HX.out _) (by assumption)).mono ?_; rintro e w1 ⟨rfl, hg⟩))
  go_ret
  refine ⟨ret_bool ?_, by assumption⟩
  first | rfl | (rw [decide_eq_true_eq]; omega)
set_option maxHeartbeats 800000 in
theorem holds_4 (a0 : Int) (w : World) (h1 : 9 ≤ a0) (h2 : a0 ≤ 12) : Calls Try.prog 7 #[.int .i64 a0] w fun e w' => e = .returned (.bool true) ∧ Below w.heap.size w w' := by
  have b0 := Below.refl w.heap.size w
  have HP := hid_mk (pages_any a0)
  have hp : pagesV a0 = 0 := by unfold pagesV; rw [if_neg (by omega)]
  rw [hp] at HP
  have HO := hid_mk (of_at a0 4 (by unfold ofV; omega))
  have HW := hid_mk (words_at 4 12 rfl)
  have HX := hid_mk (words_at 3 8 rfl)
  clear hp
  go_enter Try.func7, Try.ntmps7
  go_wp2_with (first
    | (go_at_call 9; refine (calls_rel (alive_any _) (by assumption)).mono ?_; rintro e w1 ⟨rfl, hg⟩)
    | (go_at_call 14; refine (calls_rel (HO.out _) (by assumption)).mono ?_; rintro e w1 ⟨rfl, hg⟩)
    | (go_at_call 15; refine (calls_rel (HP.out _) (by assumption)).mono ?_; rintro e w1 ⟨rfl, hg⟩)
    | (go_at_call_of 12 (Value.int IntKind.i64 4); refine (calls_rel (HW.out _) (by assumption)).mono ?_; rintro e w1 ⟨rfl, hg⟩)
    | (go_at_call_of 12 (Value.int IntKind.i64 3); refine (calls_rel (HX.out _) (by assumption)).mono ?_; rintro e w1 ⟨rfl, hg⟩))
  go_ret
  refine ⟨ret_bool ?_, by assumption⟩
  first | rfl | (rw [decide_eq_true_eq]; omega)
set_option maxHeartbeats 800000 in
theorem holds_5 (a0 : Int) (w : World) (h1 : 13 ≤ a0) (h2 : a0 ≤ 16) : Calls Try.prog 7 #[.int .i64 a0] w fun e w' => e = .returned (.bool true) ∧ Below w.heap.size w w' := by
  have b0 := Below.refl w.heap.size w
  have HP := hid_mk (pages_any a0)
  have hp : pagesV a0 = 0 := by unfold pagesV; rw [if_neg (by omega)]
  rw [hp] at HP
  have HO := hid_mk (of_at a0 5 (by unfold ofV; omega))
  have HW := hid_mk (words_at 5 16 rfl)
  have HX := hid_mk (words_at 4 12 rfl)
  clear hp
  go_enter Try.func7, Try.ntmps7
  go_wp2_with (first
    | (go_at_call 9; refine (calls_rel (alive_any _) (by assumption)).mono ?_; rintro e w1 ⟨rfl, hg⟩)
    | (go_at_call 14; refine (calls_rel (HO.out _) (by assumption)).mono ?_; rintro e w1 ⟨rfl, hg⟩)
    | (go_at_call 15; refine (calls_rel (HP.out _) (by assumption)).mono ?_; rintro e w1 ⟨rfl, hg⟩)
    | (go_at_call_of 12 (Value.int IntKind.i64 5); refine (calls_rel (HW.out _) (by assumption)).mono ?_; rintro e w1 ⟨rfl, hg⟩)
    | (go_at_call_of 12 (Value.int IntKind.i64 4); refine (calls_rel (HX.out _) (by assumption)).mono ?_; rintro e w1 ⟨rfl, hg⟩))
  go_ret
  refine ⟨ret_bool ?_, by assumption⟩
  first | rfl | (rw [decide_eq_true_eq]; omega)
set_option maxHeartbeats 800000 in
theorem holds_6 (a0 : Int) (w : World) (h1 : 17 ≤ a0) (h2 : a0 ≤ 20) : Calls Try.prog 7 #[.int .i64 a0] w fun e w' => e = .returned (.bool true) ∧ Below w.heap.size w w' := by
  have b0 := Below.refl w.heap.size w
  have HP := hid_mk (pages_any a0)
  have hp : pagesV a0 = 0 := by unfold pagesV; rw [if_neg (by omega)]
  rw [hp] at HP
  have HO := hid_mk (of_at a0 6 (by unfold ofV; omega))
  have HW := hid_mk (words_at 6 20 rfl)
  have HX := hid_mk (words_at 5 16 rfl)
  clear hp
  go_enter Try.func7, Try.ntmps7
  go_wp2_with (first
    | (go_at_call 9; refine (calls_rel (alive_any _) (by assumption)).mono ?_; rintro e w1 ⟨rfl, hg⟩)
    | (go_at_call 14; refine (calls_rel (HO.out _) (by assumption)).mono ?_; rintro e w1 ⟨rfl, hg⟩)
    | (go_at_call 15; refine (calls_rel (HP.out _) (by assumption)).mono ?_; rintro e w1 ⟨rfl, hg⟩)
    | (go_at_call_of 12 (Value.int IntKind.i64 6); refine (calls_rel (HW.out _) (by assumption)).mono ?_; rintro e w1 ⟨rfl, hg⟩)
    | (go_at_call_of 12 (Value.int IntKind.i64 5); refine (calls_rel (HX.out _) (by assumption)).mono ?_; rintro e w1 ⟨rfl, hg⟩))
  go_ret
  refine ⟨ret_bool ?_, by assumption⟩
  first | rfl | (rw [decide_eq_true_eq]; omega)
set_option maxHeartbeats 800000 in
theorem holds_7 (a0 : Int) (w : World) (h1 : 21 ≤ a0) (h2 : a0 ≤ 32) : Calls Try.prog 7 #[.int .i64 a0] w fun e w' => e = .returned (.bool true) ∧ Below w.heap.size w w' := by
  have b0 := Below.refl w.heap.size w
  have HP := hid_mk (pages_any a0)
  have hp : pagesV a0 = 0 := by unfold pagesV; rw [if_neg (by omega)]
  rw [hp] at HP
  have HO := hid_mk (of_at a0 7 (by unfold ofV; omega))
  have HW := hid_mk (words_at 7 32 rfl)
  have HX := hid_mk (words_at 6 20 rfl)
  clear hp
  go_enter Try.func7, Try.ntmps7
  go_wp2_with (first
    | (go_at_call 9; refine (calls_rel (alive_any _) (by assumption)).mono ?_; rintro e w1 ⟨rfl, hg⟩)
    | (go_at_call 14; refine (calls_rel (HO.out _) (by assumption)).mono ?_; rintro e w1 ⟨rfl, hg⟩)
    | (go_at_call 15; refine (calls_rel (HP.out _) (by assumption)).mono ?_; rintro e w1 ⟨rfl, hg⟩)
    | (go_at_call_of 12 (Value.int IntKind.i64 7); refine (calls_rel (HW.out _) (by assumption)).mono ?_; rintro e w1 ⟨rfl, hg⟩)
    | (go_at_call_of 12 (Value.int IntKind.i64 6); refine (calls_rel (HX.out _) (by assumption)).mono ?_; rintro e w1 ⟨rfl, hg⟩))
  go_ret
  refine ⟨ret_bool ?_, by assumption⟩
  first | rfl | (rw [decide_eq_true_eq]; omega)
end Go.Proofs.Ytgfibbpomeaokaa
