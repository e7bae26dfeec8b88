/- the walks of Fr -/
import Derived.Test.YteepkghjphmegabM4
import Derived.Test.YteepkghjphmegabWFp
import Derived.Test.YteepkghjphmegabWFd
import Derived.Test.YteepkghjphmegabWFe
namespace Go.Proofs.Yteepkghjphmegab
open Go.ChangeShapes Go.WideShapes Go.ChangeAt Go.RowKit
set_option linter.unusedVariables false
set_option linter.unusedSimpArgs false

theorem refFloMul_any (a b : Int) (w : World) (ha1 : -9223372036854775808 ≤ a) (ha2 : a ≤ 9223372036854775807) (hb1 : -9223372036854775808 ≤ b) (hb2 : b ≤ 9223372036854775807) :
    Calls Try.prog 57 #[.int .i64 a, .int .i64 b] w fun e w' => e = .returned (.int .i64 (mulV a b)) ∧ Below w.heap.size w w' := by
  by_cases hsp : pNone a = true ∨ pNone b = true ∨ pInf a = true ∨ pInf b = true
  · exact refFloMul_sp a b w ha1 ha2 hb1 hb2 hsp
  · have na : pNone a = false := Bool.eq_false_iff.mpr (fun h => hsp (.inl h))
    have nb : pNone b = false := Bool.eq_false_iff.mpr (fun h => hsp (.inr (.inl h)))
    have ia : pInf a = false := Bool.eq_false_iff.mpr (fun h => hsp (.inr (.inr (.inl h))))
    have ib : pInf b = false := Bool.eq_false_iff.mpr (fun h => hsp (.inr (.inr (.inr h))))
    have e : mulV a b = rndV (pNeg a != pNeg b) (pWhole a * pWhole b) (pExp a + pExp b) false := by
      unfold mulV; rw [if_neg (by simp [na, nb, ia, ib]), if_neg (by simp [ia, ib])]
    rw [e]
    exact refFloMul_fin a b w ha1 ha2 hb1 hb2 na nb ia ib
theorem refFloDiv_any (a b : Int) (w : World) (ha1 : -9223372036854775808 ≤ a) (ha2 : a ≤ 9223372036854775807) (hb1 : -9223372036854775808 ≤ b) (hb2 : b ≤ 9223372036854775807) :
    Calls Try.prog 59 #[.int .i64 a, .int .i64 b] w fun e w' => e = .returned (.int .i64 (divV a b)) ∧ Below w.heap.size w w' := by
  by_cases hsp : pNone a = true ∨ pNone b = true ∨ pInf a = true ∨ pInf b = true ∨ pWhole b = 0
  · exact refFloDiv_sp a b w ha1 ha2 hb1 hb2 hsp
  · have na : pNone a = false := Bool.eq_false_iff.mpr (fun h => hsp (.inl h))
    have nb : pNone b = false := Bool.eq_false_iff.mpr (fun h => hsp (.inr (.inl h)))
    have ia : pInf a = false := Bool.eq_false_iff.mpr (fun h => hsp (.inr (.inr (.inl h))))
    have ib : pInf b = false := Bool.eq_false_iff.mpr (fun h => hsp (.inr (.inr (.inr (.inl h)))))
    have zb : pWhole b ≠ 0 := fun h => hsp (.inr (.inr (.inr (.inr h))))
    have e : divV a b = rndV (pNeg a != pNeg b) (pWhole a * 2 ^ 120 / pWhole b) (pExp a - pExp b - 120) (decide (0 < pWhole a * 2 ^ 120 % pWhole b)) := by
      unfold divV; rw [if_neg (by simp [na, nb, ia, ib, zb]), if_neg (by simp [ia, ib, zb]), if_neg (by simp [ib])]
    rw [e]
    exact refFloDiv_fin a b w ha1 ha2 hb1 hb2 na nb ia ib zb

theorem mul_link' (a b : Int) (ha1 : -9223372036854775808 ≤ a) (ha2 : a ≤ 9223372036854775807) (hb1 : -9223372036854775808 ≤ b) (hb2 : b ≤ 9223372036854775807) : floR .mul a b = mulV a b :=
  mul_link a b ha1 ha2 hb1 hb2
end Go.Proofs.Yteepkghjphmegab
