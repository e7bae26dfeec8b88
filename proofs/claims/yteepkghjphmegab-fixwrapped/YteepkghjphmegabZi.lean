/- fixnums: plain mathematics -/
import Derived.Test.YteepkghjphmegabFx
namespace Go.Proofs.Yteepkghjphmegab
open Go.ChangeShapes Go.WideShapes Go.ChangeAt Go.RowKit
set_option linter.unusedVariables false

theorem fwrap_k (x k : Int) : fwrap (x + 2305843009213693952 * k) = fwrap x := by unfold fwrap; omega
theorem fwrap_is (x : Int) : ∃ k, fwrap x = x + 2305843009213693952 * k := ⟨-((x + 1152921504606846976) / 2305843009213693952), by unfold fwrap; omega⟩
theorem fwrap_addl (x c : Int) : fwrap (fwrap x + c) = fwrap (x + c) := by unfold fwrap; omega
theorem fwrap_addr (x c : Int) : fwrap (c + fwrap x) = fwrap (c + x) := by unfold fwrap; omega
theorem fwrap_mull (x c : Int) : fwrap (fwrap x * c) = fwrap (x * c) := by
  obtain ⟨k, hk⟩ := fwrap_is x
  rw [hk, Int.add_mul, Int.mul_assoc, fwrap_k]
theorem fwrap_mulr (x c : Int) : fwrap (c * fwrap x) = fwrap (c * x) := by rw [Int.mul_comm, fwrap_mull, Int.mul_comm]
theorem fits_fwrap (x : Int) : fitsB (fwrap x) = true := by
  have := fwrap_bounds x
  unfold fitsB; rw [decide_eq_true_eq]; exact this
theorem fwrap_zero : fwrap 0 = 0 := by decide
theorem fwrap_of_fits {x : Int} (h : -1152921504606846976 ≤ x ∧ x ≤ 1152921504606846975) : fwrap x = x := by unfold fwrap; omega

end Go.Proofs.Yteepkghjphmegab
