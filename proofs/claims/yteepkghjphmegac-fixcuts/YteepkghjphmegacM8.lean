/- the float of a whole number, and back -/
import Derived.Test.YteepkghjphmegacM7
import Derived.Test.YteepkghjphmegacTf
namespace Go.Proofs.Yteepkghjphmegac
open Go.ChangeShapes Go.WideShapes Go.ChangeAt Go.RowKit
set_option linter.unusedVariables false
set_option linter.unusedSimpArgs false

theorem toFlo_ord (c : Int) : ordV (toFloV c) = ordO c 0 := (ord_rnd _ _ _ _ (by omega)).1
theorem toFlo_rng (c : Int) : -9223372036854775808 ≤ toFloV c ∧ toFloV c ≤ 9223372036854775807 := rnd_range _ _ _
theorem toFlo_none (c : Int) : pNone (toFloV c) = false := (ord_rnd _ _ _ _ (by omega)).2
/-- the rung of a whole number that is not 0 is one of the full fractions -/
theorem rung_full (M : Int) (h : 0 < M) : 4503599627370496 ≤ rungO M 0 false := by
  obtain ⟨l1, l2⟩ := log_boundsM M h
  unfold rungO
  rw [if_neg (by omega), rung_kept]
  have hlow : lowV (M.toNat.log2 : Int) 0 = max ((M.toNat.log2 : Int) - 52) (-1074) := by unfold lowV; omega
  have hlow' : lowV (M.toNat.log2 : Int) 0 = (M.toNat.log2 : Int) - 52 := by omega
  have hf := flV_ge M (lowV (M.toNat.log2 : Int) 0) M.toNat.log2 l1 (by omega)
  rw [show ((M.toNat.log2 : Int) - lowV (M.toNat.log2 : Int) 0).toNat = 52 by omega, pow52] at hf
  have : 4503599627370496 ≤ keptV M (lowV (M.toNat.log2 : Int) 0) false := by unfold keptV; split <;> omega
  omega
theorem toFlo_less (c d : Int) (h : c < d) : (lessB (toFloV c) (toFloV d) == (toFloV c == toFloV d)) = false := by
  obtain ⟨c1, c2⟩ := toFlo_rng c
  obtain ⟨d1, d2⟩ := toFlo_rng d
  have hm := ordO_mono c d 0 (by omega)
  rw [less_link _ _ c1 c2 d1 d2]
  unfold lessV
  rw [toFlo_none, toFlo_none, toFlo_ord, toFlo_ord]
  simp only [Bool.not_false, Bool.true_and]
  by_cases he : ordO c 0 = ordO d 0
  · have heq : toFloV c = toFloV d := by
      have zc : c ≠ 0 → 4503599627370496 ≤ rungO (c.natAbs : Int) 0 false := fun q => rung_full _ (by omega)
      have zd : d ≠ 0 → 4503599627370496 ≤ rungO (d.natAbs : Int) 0 false := fun q => rung_full _ (by omega)
      have z0 : rungO 0 0 false = 0 := by simp [rungO]
      unfold toFloV
      rw [rnd_rungO, rnd_rungO]
      unfold ordO sg at he
      by_cases c0 : c < 0 <;> by_cases d0 : d < 0
      · rw [decide_eq_true c0, decide_eq_true d0] at he ⊢
        simp only [if_true] at he
        rw [show rungO (c.natAbs : Int) 0 false = rungO (d.natAbs : Int) 0 false by omega]
      · rw [decide_eq_true c0, decide_eq_false d0] at he
        simp only [if_true, Bool.false_eq_true, if_false] at he
        have := zc (by omega)
        have := (rungO_range (d.natAbs : Int) 0 false (by omega)).1
        omega
      · omega
      · rw [decide_eq_false c0, decide_eq_false d0] at he ⊢
        simp only [Bool.false_eq_true, if_false] at he
        rw [he]
    rw [heq, he]; simp
  · have hne : ¬ toFloV c = toFloV d := fun q => he (by rw [← toFlo_ord, ← toFlo_ord, q])
    have e1 : decide (ordO c 0 < ordO d 0) = true := decide_eq_true (by omega)
    have e2 : (toFloV c == toFloV d) = false := by simpa using hne
    rw [e1, e2]; rfl
/-- what the float of a whole number from 1 to 2^60 is made of -/
theorem toFlo_parts (neg : Bool) (M : Int) (h0 : 0 < M) (h1 : M ≤ 1152921504606846976) :
    ∃ h : Nat, h ≤ 60 ∧ 2 ^ h ≤ M ∧ M < 2 ^ (h + 1) ∧ rndV neg M 0 false = signedV neg (((h : Int) + 1022) * 4503599627370496 + keptV M ((h : Int) - 52) false) ∧
      4503599627370496 ≤ keptV M ((h : Int) - 52) false ∧ keptV M ((h : Int) - 52) false ≤ 9007199254740992 := by
  obtain ⟨l1, l2⟩ := log_boundsM M h0
  have hl60 : M.toNat.log2 ≤ 60 := by
    by_cases h : M.toNat.log2 ≤ 60
    · exact h
    · have : (2 : Int) ^ 61 ≤ 2 ^ M.toNat.log2 := pow_le_pow (by omega)
      have e : (2 : Int) ^ 61 = 2305843009213693952 := by decide
      omega
  have hlow : lowV (M.toNat.log2 : Int) 0 = (M.toNat.log2 : Int) - 52 := by unfold lowV; omega
  have hf := flV_ge M ((M.toNat.log2 : Int) - 52) M.toNat.log2 l1 (by omega)
  rw [show ((M.toNat.log2 : Int) - ((M.toNat.log2 : Int) - 52)).toNat = 52 by omega, pow52] at hf
  have hk1 : 4503599627370496 ≤ keptV M ((M.toNat.log2 : Int) - 52) false := by unfold keptV; split <;> omega
  have hk2 := kept_le M ((M.toNat.log2 : Int) - 52) false M.toNat.log2 (by omega) l2 (by omega)
  refine ⟨M.toNat.log2, hl60, l1, l2, ?_, hk1, hk2⟩
  rw [rnd_rungO]
  unfold rungO
  rw [if_neg (by omega), rung_kept, hlow]
  congr 1
  omega
theorem kept_err (M : Int) (k : Nat) (h0 : 0 ≤ M) : -(2 ^ k : Int) ≤ keptV M ((k + 1 : Nat) : Int) false * 2 ^ (k + 1) - M ∧ keptV M ((k + 1 : Nat) : Int) false * 2 ^ (k + 1) - M ≤ 2 ^ k := by
  have hp := pow_pos' k
  have h1 := Int.mul_ediv_add_emod M (2 ^ (k + 1))
  have hm := mod_succ M k
  have hr0 := Int.emod_nonneg M (Int.ne_of_gt hp)
  have hr1 := Int.emod_lt_of_pos M hp
  have hfl : flV M ((k + 1 : Nat) : Int) = M / 2 ^ (k + 1) := by
    unfold flV; rw [if_pos (by omega), show (((k + 1 : Nat) : Int)).toNat = k + 1 by omega]
  have hp2 := pow_succ' k
  have hb := bit_01 M k
  unfold keptV
  by_cases hu : upB M ((k + 1 : Nat) : Int) false = true
  · have hb1 : bit M k = 1 := by
      unfold upB atV at hu
      rw [if_neg (by omega), show ((((k + 1 : Nat) : Int) - 1)).toNat = k by omega] at hu
      simp at hu; exact hu.1
    rw [if_pos hu, hfl, Int.add_mul, Int.one_mul, Int.mul_comm (M / 2 ^ (k + 1))]
    rw [hb1, Int.mul_one] at hm
    omega
  · rw [if_neg hu, hfl, Int.add_zero, Int.mul_comm (M / 2 ^ (k + 1))]
    have hb01 : bit M k = 0 ∨ bit M k = 1 := by omega
    rcases hb01 with e | e
    · rw [e, Int.mul_zero] at hm; omega
    · have hz : M % 2 ^ k = 0 := by
        by_cases hz : M % 2 ^ k = 0
        · exact hz
        · exfalso; apply hu
          unfold upB atV restB
          rw [if_neg (by omega), show ((((k + 1 : Nat) : Int) - 1)).toNat = k by omega, e]
          simp [hz]
      rw [e, Int.mul_one] at hm; omega
end Go.Proofs.Yteepkghjphmegac
