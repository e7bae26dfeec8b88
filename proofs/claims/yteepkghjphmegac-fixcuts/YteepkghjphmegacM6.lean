/- rounding keeps the order -/
import Derived.Test.YteepkghjphmegacM4
namespace Go.Proofs.Yteepkghjphmegac
open Go.ChangeShapes Go.WideShapes Go.ChangeAt Go.RowKit
set_option linter.unusedVariables false
set_option linter.unusedSimpArgs false

/-- what is rounded at a place: the digits that are kept, and one more or not -/
def keptV (N low : Int) (more : Bool) : Int := flV N low + (if upB N low more = true then 1 else 0)
/-- N, and a little more or not, is no greater than N', and a little more or not -/
def leM (N : Int) (m : Bool) (N' : Int) (m' : Bool) : Prop := N < N' ∨ (N = N' ∧ (m = true → m' = true))
theorem kept_mono (N N' low : Int) (m m' : Bool) (h0 : 0 ≤ N) (h : leM N m N' m') : keptV N low m ≤ keptV N' low m' := by
  by_cases hl : low ≤ 0
  · have u : ∀ x y, upB x low y = false := by intro x y; unfold upB atV; rw [if_pos (by omega)]; rfl
    unfold keptV
    rw [u, u]
    have hle : N ≤ N' := by rcases h with h | h <;> omega
    have hf : flV N low ≤ flV N' low := by
      unfold flV
      by_cases hz : 0 ≤ low
      · rw [if_pos hz, if_pos hz]; exact Int.ediv_le_ediv (pow_pos' _) hle
      · rw [if_neg hz, if_neg hz]; exact Int.mul_le_mul_of_nonneg_right hle (Int.le_of_lt (pow_pos' _))
    simp; exact hf
  · obtain ⟨k, rfl⟩ : ∃ k : Nat, low = ((k + 1 : Nat) : Int) := ⟨low.toNat - 1, by omega⟩
    have hp := pow_pos' k
    have e2 : (((k + 1 : Nat) : Int)).toNat = k + 1 := by omega
    have e3 : ((((k + 1 : Nat) : Int) - 1)).toNat = k := by omega
    have key : ∀ (X : Int) (y : Bool), ∃ q b r, X = (q * 2 + b) * 2 ^ k + r ∧ 0 ≤ r ∧ r < 2 ^ k ∧ (b = 0 ∨ b = 1) ∧ keptV X ((k + 1 : Nat) : Int) y = q + (if b = 1 ∧ (y = true ∨ r ≠ 0 ∨ q % 2 = 1) then 1 else 0) := by
      intro X y
      refine ⟨X / 2 ^ (k + 1), bit X k, X % 2 ^ k, ?_, Int.emod_nonneg _ (Int.ne_of_gt hp), Int.emod_lt_of_pos _ hp, by have := bit_01 X k; omega, ?_⟩
      · have h1 := Int.mul_ediv_add_emod X (2 ^ k)
        have h2 : X / 2 ^ k = X / 2 ^ (k + 1) * 2 + bit X k := by rw [div_succ]; unfold bit; omega
        rw [← h2, Int.mul_comm]; omega
      · unfold keptV
        have hfl : flV X ((k + 1 : Nat) : Int) = X / 2 ^ (k + 1) := by unfold flV; rw [if_pos (by omega), e2]
        have hup : (upB X ((k + 1 : Nat) : Int) y = true) ↔ (bit X k = 1 ∧ (y = true ∨ X % 2 ^ k ≠ 0 ∨ X / 2 ^ (k + 1) % 2 = 1)) := by
          unfold upB atV restB
          rw [if_neg (by omega), e3, hfl]
          simp only [Bool.and_eq_true, beq_iff_eq, Bool.or_eq_true, decide_eq_true_eq]
          constructor
          · rintro ⟨x, (y' | y') | y'⟩
            · exact ⟨x, .inl y'⟩
            · exact ⟨x, .inr (.inl y')⟩
            · exact ⟨x, .inr (.inr y')⟩
          · rintro ⟨x, y' | y' | y'⟩
            · exact ⟨x, .inl (.inl y')⟩
            · exact ⟨x, .inl (.inr y')⟩
            · exact ⟨x, .inr y'⟩
        rw [hfl]
        congr 1
        by_cases hc : bit X k = 1 ∧ (y = true ∨ X % 2 ^ k ≠ 0 ∨ X / 2 ^ (k + 1) % 2 = 1)
        · rw [if_pos (hup.2 hc), if_pos hc]
        · rw [if_neg (fun q => hc (hup.1 q)), if_neg hc]
    obtain ⟨q, b, r, hX, r0, r1, hb, hk⟩ := key N m
    obtain ⟨q', b', r', hX', r0', r1', hb', hk'⟩ := key N' m'
    rw [hk, hk']
    have hle : N ≤ N' := by rcases h with h | h <;> omega
    have hd : q * 2 + b ≤ q' * 2 + b' := by
      by_cases hc : q * 2 + b ≤ q' * 2 + b'
      · exact hc
      · have h5 : (q' * 2 + b' + 1) * 2 ^ k ≤ (q * 2 + b) * 2 ^ k := Int.mul_le_mul_of_nonneg_right (by omega) (by omega)
        rw [Int.add_mul, Int.one_mul] at h5
        omega
    by_cases hq : q < q'
    · split <;> split <;> omega
    · have hqq : q = q' := by omega
      subst hqq
      by_cases hbb : b = b'
      · subst hbb
        have hrr : r ≤ r' := by omega
        by_cases hc : b = 1 ∧ (m = true ∨ r ≠ 0 ∨ q % 2 = 1)
        · rw [if_pos hc]
          have : b = 1 ∧ (m' = true ∨ r' ≠ 0 ∨ q % 2 = 1) := by
            refine ⟨hc.1, ?_⟩
            rcases hc.2 with h6 | h6 | h6
            · rcases h with h | ⟨h, h7⟩
              · exact .inr (.inl (by omega))
              · exact .inl (h7 h6)
            · exact .inr (.inl (by omega))
            · exact .inr (.inr h6)
          rw [if_pos this]; omega
        · rw [if_neg hc]; split <;> omega
      · have : b = 0 := by omega
        rw [if_neg (by omega)]; split <;> omega
theorem kept_le (N low : Int) (m : Bool) (k : Nat) (h0 : 0 ≤ N) (h : N < 2 ^ (k + 1)) (hl : (k : Int) - 52 ≤ low) : keptV N low m ≤ 9007199254740992 := by
  have := flV_53 N low k h0 h hl
  unfold keptV; split <;> omega
theorem rung_kept (N h exp : Int) (m : Bool) : rungV N h exp m = min ((lowV h exp + exp + 1074) * 4503599627370496 + keptV N (lowV h exp) m) 9218868437227405312 := by
  unfold rungV keptV; omega
theorem rung_mono (N N' exp : Int) (m m' : Bool) (h0 : 0 < N) (h : leM N m N' m') : rungV N (N.toNat.log2 : Int) exp m ≤ rungV N' (N'.toNat.log2 : Int) exp m' := by
  have h0' : 0 < N' := by rcases h with h | h <;> omega
  obtain ⟨a1, a2⟩ := log_boundsM N h0
  obtain ⟨b1, b2⟩ := log_boundsM N' h0'
  have hle : N ≤ N' := by rcases h with h | h <;> omega
  have hlog : N.toNat.log2 ≤ N'.toNat.log2 := by
    by_cases hc : N.toNat.log2 ≤ N'.toNat.log2
    · exact hc
    · have : (2 : Int) ^ (N'.toNat.log2 + 1) ≤ 2 ^ N.toNat.log2 := pow_le_pow (by omega)
      omega
  rw [rung_kept, rung_kept]
  by_cases hlow : lowV (N.toNat.log2 : Int) exp = lowV (N'.toNat.log2 : Int) exp
  · rw [← hlow]
    have := kept_mono N N' (lowV (N.toNat.log2 : Int) exp) m m' (by omega) h
    omega
  · have hk := kept_le N (lowV (N.toNat.log2 : Int) exp) m N.toNat.log2 (by omega) a2 (by unfold lowV; omega)
    have hlow' : lowV (N'.toNat.log2 : Int) exp = (N'.toNat.log2 : Int) - 52 := by
      have : lowV (N.toNat.log2 : Int) exp < lowV (N'.toNat.log2 : Int) exp := by unfold lowV at *; omega
      unfold lowV at *; omega
    have hge : 4503599627370496 ≤ keptV N' (lowV (N'.toNat.log2 : Int) exp) m' := by
      have hf := flV_ge N' (lowV (N'.toNat.log2 : Int) exp) N'.toNat.log2 b1 (by omega)
      rw [show ((N'.toNat.log2 : Int) - lowV (N'.toNat.log2 : Int) exp).toNat = 52 by omega, pow52] at hf
      unfold keptV; split <;> omega
    have hlt : lowV (N.toNat.log2 : Int) exp + 1 ≤ lowV (N'.toNat.log2 : Int) exp := by
      unfold lowV at *; omega
    omega
end Go.Proofs.Yteepkghjphmegac
