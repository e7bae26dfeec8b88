/- calls of the statement on signs -/
import Derived.Test.YteepkghjphmegacM5
import Derived.Test.YteepkghjphmegacNx
namespace Go.Proofs.Yteepkghjphmegac
open Go.ChangeShapes Go.WideShapes Go.ChangeAt Go.RowKit
set_option linter.unusedVariables false
set_option linter.unusedSimpArgs false
theorem told_any (b : Int) (w : World) : Calls Try.prog 10 #[.int .i64 b] w fun e w' => e = .returned (.int .i64 (canonV b)) ∧ w' = w := by
  by_cases h : pNone b = true
  · have HC := hid_mk (canon_none b h)
    go_enter Try.func10, Try.ntmps10
    go_wp2_with (go_at_call 13; refine calls_same (number_any _ _) ?_)
    go_ret
    exact ⟨ret_int (by rw [HC.out]; rfl), rfl⟩
  · have h' := Bool.eq_false_iff.mpr h
    have HC := hid_mk (canon_num b h')
    clear h
    go_enter Try.func10, Try.ntmps10
    go_wp2_with (go_at_call 13; refine calls_same (number_any _ _) ?_)
    go_ret
    exact ⟨ret_int HC.out.symm, rfl⟩
theorem finite_any (b : Int) (w : World) : Calls Try.prog 12 #[.int .i64 b] w fun e w' => e = .returned (.bool (decide (rg b < 9218868437227405312))) ∧ w' = w := by
  have hm := hid_mk (and_mask b)
  go_enter Try.func12, Try.ntmps12
  go_wp2
  go_ret
  exact ⟨ret_bool (by rw [hm.out]), rfl⟩
theorem floR_range (op : BinOp) (a b : Int) : -9223372036854775808 ≤ floR op a b ∧ floR op a b ≤ 9223372036854775807 := by
  unfold floR
  split
  · unfold bitsOf
    split
    · decide
    · unfold wrap64; omega
  · decide
end Go.Proofs.Yteepkghjphmegac
