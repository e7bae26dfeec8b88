/- a pattern as the model reads it -/
import Derived.Test.YteepkghjphmegaaPt
namespace Go.Proofs.Yteepkghjphmegaa
open Go.ChangeShapes Go.WideShapes Go.ChangeAt Go.RowKit
set_option linter.unusedVariables false
set_option linter.unusedSimpArgs false

/-! ### the pattern as the model reads it -/
theorem f64_sign : FloatKind.f64.format.signWeight = 9223372036854775808 := by decide
theorem f64_inf : FloatKind.f64.format.infRung = 9218868437227405312 := by decide
theorem f64_bin : FloatKind.f64.format.binade = 4503599627370496 := by decide
theorem f64_least : FloatKind.f64.format.leastPlace = -1074 := by decide
theorem pat_cast (b : Int) : ((pat b : Nat) : Int) = b % 18446744073709551616 := by
  unfold pat
  have e : IntKind.u64.wrap b = b % 18446744073709551616 := by simp [IntKind.wrap, IntKind.signed, IntKind.bits]
  rw [e]; omega
theorem pat_lt (b : Int) : pat b < 18446744073709551616 := by have := pat_cast b; omega
theorem wrap_pat (b : Int) (h1 : -9223372036854775808 ≤ b) (h2 : b ≤ 9223372036854775807) : wrap64 (pat b : Nat) = b := by
  unfold wrap64; rw [pat_cast]; omega
theorem read_pat (b : Int) (h1 : -9223372036854775808 ≤ b) (h2 : b ≤ 9223372036854775807) :
    FloatKind.f64.format.read (pat b) = if pNone b = true then .nan (pNeg b) (rg b - 9218868437227405312).toNat else if pInf b = true then .infinity (pNeg b) else .number (pNeg b) (pWhole b).toNat (pExp b) := by
  have hc := pat_cast b
  have hs : (pat b / 9223372036854775808 % 2 == 1) = pNeg b := by
    unfold pNeg; rw [Bool.eq_iff_iff]; simp; omega
  have hr : ((pat b % 9223372036854775808 : Nat) : Int) = rg b := by unfold rg; omega
  unfold Ieee.Format.read
  rw [f64_sign, f64_inf, f64_bin, f64_least, hs]
  generalize pat b % 9223372036854775808 = m at hr
  unfold pNone pInf pWhole pExp
  rw [← hr]
  by_cases c1 : m < 4503599627370496
  · have d1 : ¬ (9218868437227405312 : Int) < (m : Int) := by omega
    have d2 : ¬ (m : Int) = 9218868437227405312 := by omega
    have d3 : (m : Int) < 4503599627370496 := by omega
    simp [c1, d1, d2, d3]
  · by_cases c2 : m < 9218868437227405312
    · have d1 : ¬ (9218868437227405312 : Int) < (m : Int) := by omega
      have d2 : ¬ (m : Int) = 9218868437227405312 := by omega
      have d3 : ¬ (m : Int) < 4503599627370496 := by omega
      have d4 : (m : Int) < 9218868437227405312 := by omega
      simp only [c1, c2, d1, d2, d3, d4, if_true, if_false, decide_false, Bool.false_eq_true]
      congr 1 <;> omega
    · by_cases c3 : m = 9218868437227405312
      · have d1 : ¬ (9218868437227405312 : Int) < (m : Int) := by omega
        have d2 : (m : Int) = 9218868437227405312 := by omega
        have e1 : decide ((9218868437227405312 : Int) < (m : Int)) = false := decide_eq_false d1
        have e2 : decide ((m : Int) = 9218868437227405312) = true := decide_eq_true d2
        rw [e1, e2, if_neg c1, if_neg c2, if_pos c3]
        rfl
      · have d1 : (9218868437227405312 : Int) < (m : Int) := by omega
        have e1 : decide ((9218868437227405312 : Int) < (m : Int)) = true := decide_eq_true d1
        have e3 : m - 9218868437227405312 = ((m : Int) - 9218868437227405312).toNat := by omega
        rw [e1, if_neg c1, if_neg c2, if_neg c3, e3]
        rfl
theorem cmp_self (x : Int) : compare x x = Ordering.eq := by simp
theorem order_self (b : Int) (h1 : -9223372036854775808 ≤ b) (h2 : b ≤ 9223372036854775807) : FloatKind.f64.format.order (pat b) (pat b) = if pNone b = true then none else some .eq := by
  unfold Ieee.Format.order
  rw [read_pat b h1 h2]
  by_cases c : pNone b = true
  · simp [c, Ieee.Datum.order]
  · by_cases d : pInf b = true
    · simp [c, d, Ieee.Datum.order]
    · simp [c, d, Ieee.Datum.order]
theorem bitsOf_pat (b : Int) (h1 : -9223372036854775808 ≤ b) (h2 : b ≤ 9223372036854775807) : bitsOf (pat b) = canonV b := by
  unfold bitsOf canonV
  rw [order_self b h1 h2]
  by_cases c : pNone b = true
  · simp [c]
  · simp [c, wrap_pat b h1 h2]
theorem same_pat (b : Int) (h1 : -9223372036854775808 ≤ b) (h2 : b ≤ 9223372036854775807) : (FloatKind.f64.format.order (pat b) (pat b) == some Ordering.eq) = !pNone b := by
  rw [order_self b h1 h2]; cases pNone b <;> simp

theorem bits_any (b : Int) (w : World) (h1 : -9223372036854775808 ≤ b) (h2 : b ≤ 9223372036854775807) :
    Calls Try.prog 12 #[.int .i64 b] w fun e w' => e = .returned (.bool true) ∧ Below w.heap.size w w' := by
  have h0 := Below.refl w.heap.size w
  have f2 := fld2
  have e1 := bitsOf_pat b h1 h2
  have e2 := same_pat b h1 h2
  go_enter Try.func12, Try.ntmps12
  go_wp2_with (first
    | (go_at_call 37; refine (fixFloat_any _ _).mono ?_; rintro e w' ⟨rfl, rfl⟩)
    | (go_at_call 38; refine (fixBits_any _ _).mono ?_; rintro e w' ⟨rfl, rfl⟩)
    | (go_at_call 39; refine (calls_rel (refCanon_any _ _ h1 h2) (by assumption)).mono ?_; rintro e w1 ⟨rfl, hg⟩)
    | (go_at_call 40; refine (calls_rel (refParts_any _ _ h1 h2) (by assumption)).mono ?_; rintro e w1 ⟨rfl, hg⟩))
  go_ret
  exact ⟨by first | rfl | simp, by assumption⟩
end Go.Proofs.Yteepkghjphmegaa
