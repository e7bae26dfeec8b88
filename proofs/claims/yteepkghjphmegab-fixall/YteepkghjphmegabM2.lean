/- floats: what is rounded without a change -/
import Derived.Test.YteepkghjphmegabM1
namespace Go.Proofs.Yteepkghjphmegab
open Go.ChangeShapes Go.WideShapes Go.ChangeAt Go.RowKit
set_option linter.unusedVariables false
set_option linter.unusedSimpArgs false

theorem flV_scale (N low : Int) (d : Nat) : flV (N * 2 ^ d) (low + d) = flV N low := by
  have hpd := pow_pos' d
  unfold flV
  by_cases h0 : 0 ≤ low
  · rw [if_pos h0, if_pos (by omega)]
    have e : (low + d).toNat = d + low.toNat := by omega
    rw [e, Int.pow_add, ← Int.ediv_ediv_of_nonneg (by omega), Int.mul_ediv_cancel _ (by omega)]
  · rw [if_neg h0]
    by_cases h1 : 0 ≤ low + d
    · rw [if_pos h1]
      have e : d = (low + d).toNat + (-low).toNat := by omega
      have hp2 := pow_pos' (low + d).toNat
      conv => lhs; lhs; rw [e, Int.pow_add, Int.mul_left_comm]
      rw [Int.mul_ediv_cancel_left _ (by omega)]
    · rw [if_neg h1]
      have e : (-low).toNat = d + (-(low + d)).toNat := by omega
      rw [e, Int.pow_add, Int.mul_assoc]
theorem atV_scale (N low : Int) (d : Nat) : atV (N * 2 ^ d) (low + d) = atV N low := by
  unfold atV
  by_cases h0 : low < 0
  · rw [if_pos h0]
    by_cases h1 : low + d < 0
    · rw [if_pos h1]
    · rw [if_neg h1]
      exact bit_shift_low N d _ (by omega)
  · rw [if_neg h0, if_neg (by omega)]
    have e : (low + d).toNat = d + low.toNat := by omega
    rw [e, bit_shift]
theorem rest_scale (N : Int) (k d : Nat) : restB (N * 2 ^ d) (d + k) = restB N k := by
  have hpd := pow_pos' d
  have hk := Int.emod_nonneg N (Int.ne_of_gt (pow_pos' k))
  unfold restB
  have hm : N * 2 ^ d % 2 ^ (d + k) = N % 2 ^ k * 2 ^ d := by
    rw [Int.pow_add, Int.mul_comm N, Int.mul_emod_mul_of_pos _ _ hpd, Int.mul_comm]
  rw [hm, Bool.eq_iff_iff]
  simp only [decide_eq_true_eq]
  constructor
  · intro h e; rw [e] at h; simp at h
  · intro h e
    have : 0 < N % 2 ^ k * 2 ^ d := Int.mul_pos (by omega) hpd
    omega
theorem rung_scale (N h exp : Int) (d : Nat) : rungV (N * 2 ^ d) (h + d) (exp - d) false = rungV N h exp false := by
  have hl : lowV (h + d) (exp - d) = lowV h exp + d := by unfold lowV; omega
  unfold rungV
  rw [hl, flV_scale]
  have hup : upB (N * 2 ^ d) (lowV h exp + d) false = upB N (lowV h exp) false := by
    unfold upB
    have e1 : lowV h exp + d - 1 = lowV h exp - 1 + d := by omega
    rw [e1, atV_scale, flV_scale]
    by_cases h0 : 0 ≤ lowV h exp - 1
    · have e2 : (lowV h exp - 1 + d).toNat = d + (lowV h exp - 1).toNat := by omega
      rw [e2, rest_scale]
    · have : atV N (lowV h exp - 1) = 0 := by unfold atV; rw [if_pos (by omega)]
      rw [this]; rfl
  rw [hup]
  congr 3
  omega
theorem log_boundsM (q : Int) (h : 0 < q) : 2 ^ q.toNat.log2 ≤ q ∧ q < 2 ^ (q.toNat.log2 + 1) := by
  obtain ⟨n, rfl⟩ : ∃ n : Nat, q = (n : Int) := ⟨q.toNat, by omega⟩
  have h1 : 2 ^ n.log2 ≤ n := Nat.log2_self_le (by omega)
  have h2 : n < 2 ^ (n.log2 + 1) := Nat.lt_log2_self
  simp only [Int.toNat_natCast]
  exact ⟨by exact_mod_cast h1, by exact_mod_cast h2⟩
theorem log_scale (q : Int) (d : Nat) (hq : 0 < q) : (q * 2 ^ d).toNat.log2 = q.toNat.log2 + d := by
  obtain ⟨h1, h2⟩ := log_boundsM q hq
  have hpd := pow_pos' d
  have m1 := Int.mul_le_mul_of_nonneg_right h1 (Int.le_of_lt hpd)
  have m2 := Int.mul_lt_mul_of_pos_right h2 hpd
  have m3 : 0 < q * 2 ^ d := Int.mul_pos hq hpd
  have := top_log (N := q * 2 ^ d) (h := ((q.toNat.log2 + d : Nat) : Int)) m3 (.inr ⟨by omega, by
    simp only [Int.toNat_natCast]; rw [Int.pow_add]; exact m1, by
    simp only [Int.toNat_natCast]; rw [show q.toNat.log2 + d + 1 = q.toNat.log2 + 1 + d by omega, Int.pow_add (m := q.toNat.log2 + 1)]; exact m2⟩)
  omega
theorem rnd_scale (neg : Bool) (N exp : Int) (d : Nat) (hN : 0 ≤ N) : rndV neg (N * 2 ^ d) (exp - d) false = rndV neg N exp false := by
  have hpd := pow_pos' d
  by_cases hz : N = 0
  · subst hz; rw [Int.zero_mul, rnd_zero, rnd_zero]
  · have m3 : 0 < N * 2 ^ d := Int.mul_pos (by omega) hpd
    unfold rndV
    rw [if_neg (by omega), if_neg hz, log_scale N d (by omega)]
    rw [Int.natCast_add, rung_scale]
/-- a float is its own rounding -/
theorem rnd_exact (a : Int) (h1 : -9223372036854775808 ≤ a) (h2 : a ≤ 9223372036854775807) (hf : rg a < 9218868437227405312) : rndV (pNeg a) (pWhole a) (pExp a) false = a := by
  have hr := rg_bounds a
  have hs : signedV (pNeg a) (rg a) = a := by
    unfold signedV pNeg rg
    by_cases c : a < 0
    · simp [c]; omega
    · simp [c]; omega
  by_cases hz : rg a = 0
  · have hw : pWhole a = 0 := by unfold pWhole; rw [hz]; rfl
    rw [hw, rnd_zero, ← hz]; exact hs
  · have hw : 0 < pWhole a ∧ pWhole a < 9007199254740992 := by
      refine ⟨?_, (pWhole_bounds a).2⟩
      unfold pWhole
      by_cases c : rg a < 4503599627370496
      · rw [if_pos c]; omega
      · rw [if_neg c, if_pos hf]; omega
    obtain ⟨l1, l2⟩ := log_boundsM (pWhole a) hw.1
    have hl52 : (pWhole a).toNat.log2 ≤ 52 := by
      by_cases h : (pWhole a).toNat.log2 ≤ 52
      · exact h
      · have : (2 : Int) ^ 53 ≤ 2 ^ (pWhole a).toNat.log2 := pow_le_pow (by omega)
        rw [pow53] at this; omega
    have hlow : lowV ((pWhole a).toNat.log2 : Int) (pExp a) = 0 := by
      unfold lowV
      by_cases c : rg a < 4503599627370496
      · have e : pExp a = -1074 := by unfold pExp; rw [if_pos c]
        rw [e]; omega
      · have e : pExp a = rg a / 4503599627370496 - 1075 := by unfold pExp; rw [if_neg c, if_pos hf]
        have w : 4503599627370496 ≤ pWhole a := by unfold pWhole; rw [if_neg c, if_pos hf]; omega
        have h52 : 52 ≤ (pWhole a).toNat.log2 := by
          by_cases h : 52 ≤ (pWhole a).toNat.log2
          · exact h
          · have : (2 : Int) ^ ((pWhole a).toNat.log2 + 1) ≤ 2 ^ 52 := pow_le_pow (by omega)
            rw [pow52] at this; omega
        omega
    unfold rndV
    rw [if_neg (by omega)]
    have hrg : rungV (pWhole a) ((pWhole a).toNat.log2 : Int) (pExp a) false = rg a := by
      unfold rungV
      rw [hlow]
      have hu : upB (pWhole a) 0 false = false := by unfold upB atV; rw [if_pos (by omega)]; rfl
      rw [hu]
      have hfl : flV (pWhole a) 0 = pWhole a := by unfold flV; simp
      rw [hfl]
      unfold pWhole pExp
      by_cases c : rg a < 4503599627370496
      · rw [if_pos c, if_pos c]; simp; omega
      · rw [if_neg c, if_neg c, if_pos hf, if_pos hf]; simp; omega
    rw [hrg]; exact hs
end Go.Proofs.Yteepkghjphmegab
