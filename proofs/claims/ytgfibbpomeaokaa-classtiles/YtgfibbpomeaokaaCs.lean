/- the laws' own parts -/
import Derived.Test.YtgfibbpomeaokaaCr
namespace Go.Proofs.Ytgfibbpomeaokaa
open Go.ChangeShapes Go.WideShapes Go.ChangeAt Go.RowKit
set_option linter.unusedVariables false
set_option linter.unusedSimpArgs false

theorem alive_any (w : World) : Calls Try.prog 9 #[] w fun e w' => e = .returned (.bool true) ∧ Below w.heap.size w w' := by
  have h0 := Below.refl w.heap.size w
  have HO := hid_mk (of_at 3 1 rfl)
  have HW := hid_mk (words_at 4 12 rfl)
  have HP := hid_mk (fun w => pages_any 65 w)
  have hp : pagesV 65 = 2 := by decide
  rw [hp] at HP
  go_enter Try.func9, Try.ntmps9
  go_wp2_with (first
    | (go_at_call 14; refine (calls_rel (HO.out _) (by assumption)).mono ?_; rintro e w1 ⟨rfl, hg⟩)
    | (go_at_call 12; refine (calls_rel (HW.out _) (by assumption)).mono ?_; rintro e w1 ⟨rfl, hg⟩)
    | (go_at_call 15; refine (calls_rel (HP.out _) (by assumption)).mono ?_; rintro e w1 ⟨rfl, hg⟩))
  go_ret
  exact ⟨rfl, by assumption⟩
theorem sized_any (s : Int) (w : World) : Calls Try.prog 10 #[.int .i64 s] w fun e w' => e = .returned (.bool true) ∧ Below w.heap.size w w' := by
  have h0 := Below.refl w.heap.size w
  have HO := hid_mk (of_any s)
  have HP := hid_mk (pages_any s)
  have RO := hid_mk (refOf_any s)
  have RP := hid_mk (refPages_any s)
  generalize ofV s = x at *
  generalize pagesV s = y at *
  go_enter Try.func10, Try.ntmps10
  go_wp2_with (first
    | (go_at_call 14; refine (calls_rel (HO.out _) (by assumption)).mono ?_; rintro e w1 ⟨rfl, hg⟩)
    | (go_at_call 18; refine calls_same (RO.out _) ?_)
    | (go_at_call 15; refine (calls_rel (HP.out _) (by assumption)).mono ?_; rintro e w1 ⟨rfl, hg⟩)
    | (go_at_call 19; refine calls_same (RP.out _) ?_))
  go_ret
  exact ⟨rfl, by assumption⟩
set_option maxHeartbeats 800000 in
theorem placed_any (c i o : Int) (w : World) (o1 : -9223372036854775808 ≤ o) (o2 : o ≤ 9223372036854775807) : Calls Try.prog 11 #[.int .i64 c, .int .i64 i, .int .i64 o] w fun e w' => e = .returned (.bool true) ∧ Below w.heap.size w w' := by
  have h0 := Below.refl w.heap.size w
  have H1 := hid_mk (words_any c)
  have H2 := hid_mk (blocks_any c)
  have H3 := hid_mk (start_any c i)
  have H4 := hid_mk (fun w => index_any c o w o1 o2)
  have R1 := hid_mk (refWords_any c)
  have R2 := hid_mk (refBlocks_any c)
  have R3 := hid_mk (refStart_any c i)
  have R4 := hid_mk (refIndex_any c o)
  generalize wordsV c = x at *
  generalize blocksV c = y at *
  generalize startV c i = z at *
  generalize indexV c o = u at *
  clear o1 o2
  go_enter Try.func11, Try.ntmps11
  go_wp2_with (first
    | (go_at_call 12; refine (calls_rel (H1.out _) (by assumption)).mono ?_; rintro e w1 ⟨rfl, hg⟩)
    | (go_at_call 20; refine calls_same (R1.out _) ?_)
    | (go_at_call 13; refine (calls_rel (H2.out _) (by assumption)).mono ?_; rintro e w1 ⟨rfl, hg⟩)
    | (go_at_call 21; refine calls_same (R2.out _) ?_)
    | (go_at_call 16; refine (calls_rel (H3.out _) (by assumption)).mono ?_; rintro e w1 ⟨rfl, hg⟩)
    | (go_at_call 22; refine calls_same (R3.out _) ?_)
    | (go_at_call 17; refine (calls_rel (H4.out _) (by assumption)).mono ?_; rintro e w1 ⟨rfl, hg⟩)
    | (go_at_call 23; refine calls_same (R4.out _) ?_))
  go_ret
  exact ⟨rfl, by assumption⟩
end Go.Proofs.Ytgfibbpomeaokaa
