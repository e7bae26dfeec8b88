/- products and quotients -/
import Derived.Test.YteepkghjphmegaaFn
import Derived.Test.YteepkghjphmegaaFp
import Derived.Test.YteepkghjphmegaaFd
import Derived.Test.YteepkghjphmegaaFe
namespace Go.Proofs.Yteepkghjphmegaa
open Go.ChangeShapes Go.WideShapes Go.ChangeAt Go.RowKit
set_option linter.unusedVariables false
set_option linter.unusedSimpArgs false

theorem refFloMul_any (a b : Int) (w : World) (ha1 : -9223372036854775808 ≤ a) (ha2 : a ≤ 9223372036854775807) (hb1 : -9223372036854775808 ≤ b) (hb2 : b ≤ 9223372036854775807) :
    Calls Try.prog 18 #[.int .i64 a, .int .i64 b] w fun e w' => e = .returned (.int .i64 (mulV a b)) ∧ Below w.heap.size w w' := by
  by_cases hsp : pNone a = true ∨ pNone b = true ∨ pInf a = true ∨ pInf b = true
  · exact refFloMul_sp a b w ha1 ha2 hb1 hb2 hsp
  · have na : pNone a = false := Bool.eq_false_iff.mpr (fun h => hsp (.inl h))
    have nb : pNone b = false := Bool.eq_false_iff.mpr (fun h => hsp (.inr (.inl h)))
    have ia : pInf a = false := Bool.eq_false_iff.mpr (fun h => hsp (.inr (.inr (.inl h))))
    have ib : pInf b = false := Bool.eq_false_iff.mpr (fun h => hsp (.inr (.inr (.inr h))))
    have e : mulV a b = rndV (pNeg a != pNeg b) (pWhole a * pWhole b) (pExp a + pExp b) false := by
      unfold mulV; rw [if_neg (by simp [na, nb, ia, ib]), if_neg (by simp [ia, ib])]
    rw [e]
    exact refFloMul_fin a b w ha1 ha2 hb1 hb2 na nb ia ib
theorem refFloDiv_any (a b : Int) (w : World) (ha1 : -9223372036854775808 ≤ a) (ha2 : a ≤ 9223372036854775807) (hb1 : -9223372036854775808 ≤ b) (hb2 : b ≤ 9223372036854775807) :
    Calls Try.prog 20 #[.int .i64 a, .int .i64 b] w fun e w' => e = .returned (.int .i64 (divV a b)) ∧ Below w.heap.size w w' := by
  by_cases hsp : pNone a = true ∨ pNone b = true ∨ pInf a = true ∨ pInf b = true ∨ pWhole b = 0
  · exact refFloDiv_sp a b w ha1 ha2 hb1 hb2 hsp
  · have na : pNone a = false := Bool.eq_false_iff.mpr (fun h => hsp (.inl h))
    have nb : pNone b = false := Bool.eq_false_iff.mpr (fun h => hsp (.inr (.inl h)))
    have ia : pInf a = false := Bool.eq_false_iff.mpr (fun h => hsp (.inr (.inr (.inl h))))
    have ib : pInf b = false := Bool.eq_false_iff.mpr (fun h => hsp (.inr (.inr (.inr (.inl h)))))
    have zb : pWhole b ≠ 0 := fun h => hsp (.inr (.inr (.inr (.inr h))))
    have e : divV a b = rndV (pNeg a != pNeg b) (pWhole a * 2 ^ 120 / pWhole b) (pExp a - pExp b - 120) (decide (0 < pWhole a * 2 ^ 120 % pWhole b)) := by
      unfold divV; rw [if_neg (by simp [na, nb, ia, ib, zb]), if_neg (by simp [ia, ib, zb]), if_neg (by simp [ib])]
    rw [e]
    exact refFloDiv_fin a b w ha1 ha2 hb1 hb2 na nb ia ib zb

theorem mul_link' (a b : Int) (ha1 : -9223372036854775808 ≤ a) (ha2 : a ≤ 9223372036854775807) (hb1 : -9223372036854775808 ≤ b) (hb2 : b ≤ 9223372036854775807) : floR .mul a b = mulV a b :=
  mul_link a b ha1 ha2 hb1 hb2
theorem xor_bne (x y : Bool) : (x ^^ y) = (x != y) := by cases x <;> cases y <;> rfl
theorem div_link (a b : Int) (ha1 : -9223372036854775808 ≤ a) (ha2 : a ≤ 9223372036854775807) (hb1 : -9223372036854775808 ≤ b) (hb2 : b ≤ 9223372036854775807) : floR .quo a b = divV a b := by
  obtain ⟨wa, wa1⟩ := pWhole_bounds a
  obtain ⟨wb, wb1⟩ := pWhole_bounds b
  unfold floR floatBits
  dsimp only
  unfold Ieee.Format.div
  rw [read_pat a ha1 ha2, read_pat b hb1 hb2]
  by_cases na : pNone a = true
  · rw [if_pos na, show divV a b = noNum by (unfold divV; rw [if_pos (Or.inl na)])]; rfl
  · by_cases nb : pNone b = true
    · rw [if_neg na, if_pos nb, show divV a b = noNum by (unfold divV; rw [if_pos (Or.inr (Or.inl nb))])]
      by_cases ia : pInf a = true
      · rw [if_pos ia]; rfl
      · rw [if_neg ia]; rfl
    · rw [if_neg na, if_neg nb]
      by_cases ia : pInf a = true <;> by_cases ib : pInf b = true
      · rw [if_pos ia, if_pos ib, show divV a b = noNum by (unfold divV; rw [if_pos (Or.inr (Or.inr (Or.inl ⟨ia, ib⟩)))])]
        rfl
      · rw [if_pos ia, if_neg ib, show divV a b = signedV (pNeg a != pNeg b) 9218868437227405312 by (unfold divV; rw [if_neg (by simp [na, nb, ia, ib]), if_pos (Or.inl ia)])]
        exact bitsOf_inf _
      · rw [if_neg ia, if_pos ib, show divV a b = signedV (pNeg a != pNeg b) 0 by (unfold divV; rw [if_neg (by simp [na, nb, ia, ib]), if_neg (by simp [ia, ib]), if_pos ib])]
        show bitsOf (FloatKind.f64.format.nearest _ 0 0) = _
        rw [bitsOf_nearest]
        exact rnd_zero _ _ _
      · rw [if_neg ia, if_neg ib]
        have ia' := Bool.eq_false_iff.mpr ia
        have ib' := Bool.eq_false_iff.mpr ib
        by_cases zb : pWhole b = 0
        · have tb : (pWhole b).toNat = 0 := by omega
          by_cases za : pWhole a = 0
          · have ta : (pWhole a).toNat = 0 := by omega
            rw [show divV a b = noNum by (unfold divV; rw [if_pos (Or.inr (Or.inr (Or.inr ⟨ia', ib', za, zb⟩)))])]
            simp [Ieee.Datum.quotient, ta, tb]
          · have ta : ¬ (pWhole a).toNat = 0 := by omega
            rw [show divV a b = signedV (pNeg a != pNeg b) 9218868437227405312 by (unfold divV; rw [if_neg (by simp [na, nb, ia, za]), if_pos (Or.inr ⟨ib', zb⟩)])]
            simp only [Ieee.Datum.quotient, ta, tb, if_true, if_false, Option.map_some]
            exact bitsOf_inf _
        · have tb : ¬ (pWhole b).toNat = 0 := by omega
          rw [show divV a b = rndV (pNeg a != pNeg b) (pWhole a * 2 ^ 120 / pWhole b) (pExp a - pExp b - 120) (decide (0 < pWhole a * 2 ^ 120 % pWhole b)) by (unfold divV; rw [if_neg (by simp [na, nb, ia, zb]), if_neg (by simp [ia, zb]), if_neg ib])]
          simp only [Ieee.Datum.quotient, tb, if_false, Option.map_some]
          show bitsOf (FloatKind.f64.format.nearest _ _ _) = _
          rw [bitsOf_nearest, xor_bne]
          by_cases za : pWhole a = 0
          · have ta : (pWhole a).toNat = 0 := by omega
            rw [ta, za]
            simp [rnd_zero]
          · exact quo_fin _ (pWhole a) (pWhole b) (pExp a - pExp b) (by omega) wa1 (by omega) wb1
end Go.Proofs.Yteepkghjphmegaa
