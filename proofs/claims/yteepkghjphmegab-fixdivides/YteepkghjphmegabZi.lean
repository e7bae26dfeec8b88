/- fixnums: plain mathematics -/
import Derived.Test.YteepkghjphmegabFx
namespace Go.Proofs.Yteepkghjphmegab
open Go.ChangeShapes Go.WideShapes Go.ChangeAt Go.RowKit
set_option linter.unusedVariables false
set_option linter.unusedSimpArgs false

theorem hid_of {p : Prop} (h : p) : Hid p := h
theorem fwrap_k (x k : Int) : fwrap (x + 2305843009213693952 * k) = fwrap x := by unfold fwrap; omega
theorem fwrap_is (x : Int) : ∃ k, fwrap x = x + 2305843009213693952 * k := ⟨-((x + 1152921504606846976) / 2305843009213693952), by unfold fwrap; omega⟩
theorem fwrap_addl (x c : Int) : fwrap (fwrap x + c) = fwrap (x + c) := by unfold fwrap; omega
theorem fwrap_addr (x c : Int) : fwrap (c + fwrap x) = fwrap (c + x) := by unfold fwrap; omega
theorem fwrap_mull (x c : Int) : fwrap (fwrap x * c) = fwrap (x * c) := by
  obtain ⟨k, hk⟩ := fwrap_is x
  rw [hk, Int.add_mul, Int.mul_assoc, fwrap_k]
theorem fwrap_mulr (x c : Int) : fwrap (c * fwrap x) = fwrap (c * x) := by rw [Int.mul_comm, fwrap_mull, Int.mul_comm]
theorem fits_fwrap (x : Int) : fitsB (fwrap x) = true := by
  have := fwrap_bounds x
  unfold fitsB; rw [decide_eq_true_eq]; exact this
theorem fwrap_zero : fwrap 0 = 0 := by decide
theorem fwrap_of_fits {x : Int} (h : -1152921504606846976 ≤ x ∧ x ≤ 1152921504606846975) : fwrap x = x := by unfold fwrap; omega

theorem div_facts (a b : Int) (hd : fwrap b ≠ 0) :
    fwrap (fwrap (fwrap b * quotV a b) + remV a b) = fwrap a ∧ (0 < fwrap b → -fwrap b < remV a b ∧ remV a b < fwrap b) ∧ (fwrap b < 0 → fwrap b < remV a b ∧ remV a b < -fwrap b) ∧
    (0 ≤ fwrap a → 0 ≤ remV a b) ∧ (fwrap a ≤ 0 → remV a b ≤ 0) ∧ fitsB (quotV a b) = true ∧ fitsB (remV a b) = true ∧
    (fwrap a ≠ 0 → quotV a b ≠ 0 → (fwrap a = -1152921504606846976 ∧ fwrap b = -1) ∨ (quotV a b < 0 ∧ ((fwrap a < 0 ∧ 0 < fwrap b) ∨ (0 < fwrap a ∧ fwrap b < 0))) ∨ (0 < quotV a b ∧ ((fwrap a < 0 ∧ fwrap b < 0) ∨ (0 < fwrap a ∧ 0 < fwrap b)))) := by
  obtain ⟨b1, b2⟩ := fwrap_bounds a
  obtain ⟨b3, b4⟩ := fwrap_bounds b
  have eq : quotV a b = fwrap ((fwrap a).tdiv (fwrap b)) := by unfold quotV; rw [if_neg hd]
  have er : remV a b = (fwrap a).tmod (fwrap b) := by unfold remV; rw [if_neg hd]
  rw [eq, er]
  generalize fwrap a = c at *
  generalize fwrap b = d at *
  have hm : d * c.tdiv d + c.tmod d = c := Int.mul_tdiv_add_tmod c d
  have hs : c.tmod d = if c < 0 then -((c.natAbs : Int) % (d.natAbs : Int)) else (c.natAbs : Int) % (d.natAbs : Int) := by
    have ed : ∀ x : Int, x.tmod d = x.tmod (d.natAbs : Int) := by
      intro x
      by_cases hd : d < 0
      · have : (d.natAbs : Int) = -d := by omega
        rw [this, Int.tmod_neg]
      · have : (d.natAbs : Int) = d := by omega
        rw [this]
    rw [ed]
    by_cases hc : c < 0
    · have e1 : (c.natAbs : Int) = -c := by omega
      rw [e1, if_pos hc]
      have h1 : c = -(-c) := by omega
      conv => lhs; rw [h1]
      rw [Int.neg_tmod, Int.tmod_eq_emod_of_nonneg (by omega)]
    · have e1 : (c.natAbs : Int) = c := by omega
      rw [e1, if_neg hc]
      exact Int.tmod_eq_emod_of_nonneg (by omega)
  have m0 := Int.emod_nonneg (c.natAbs : Int) (b := (d.natAbs : Int)) (by omega)
  have m1 := Int.emod_lt_of_pos (c.natAbs : Int) (b := (d.natAbs : Int)) (by omega)
  have hr : (0 ≤ c → 0 ≤ c.tmod d) ∧ (c ≤ 0 → c.tmod d ≤ 0) ∧ -(d.natAbs : Int) < c.tmod d ∧ c.tmod d < (d.natAbs : Int) := by
    rw [hs]
    by_cases hc : c < 0
    · rw [if_pos hc]; omega
    · rw [if_neg hc]
      refine ⟨fun _ => m0, fun h => ?_, by omega, by omega⟩
      have : c = 0 := by omega
      subst this; simp
  generalize hq : c.tdiv d = q at *
  generalize c.tmod d = r at *
  obtain ⟨hr1, hr2, hr3, hr4⟩ := hr
  have hqs : q = 0 ∨ (0 < q ∧ ((c < 0 ∧ d < 0) ∨ (0 < c ∧ 0 < d))) ∨ (q < 0 ∧ ((c < 0 ∧ 0 < d) ∨ (0 < c ∧ d < 0))) := by
    rcases Int.lt_trichotomy q 0 with h | h | h
    · right; right; refine ⟨h, ?_⟩
      rcases Int.lt_trichotomy d 0 with g | g | g
      · right; have t := Int.mul_nonneg (a := -d) (b := -q - 1) (by omega) (by omega); rw [Int.mul_sub, Int.neg_mul_neg, Int.mul_one] at t; omega
      · omega
      · left; have t := Int.mul_nonneg (a := d) (b := -q - 1) (by omega) (by omega); rw [Int.mul_sub, Int.mul_neg, Int.mul_one] at t; omega
    · exact .inl h
    · right; left; refine ⟨h, ?_⟩
      rcases Int.lt_trichotomy d 0 with g | g | g
      · left; have t := Int.mul_nonneg (a := -d) (b := q - 1) (by omega) (by omega); rw [Int.mul_sub, Int.neg_mul, Int.mul_one] at t; omega
      · omega
      · right; have t := Int.mul_nonneg (a := d) (b := q - 1) (by omega) (by omega); rw [Int.mul_sub, Int.mul_one] at t; omega
  have hqb : -1152921504606846976 ≤ q ∧ q ≤ 1152921504606846976 ∧ (q = 1152921504606846976 → c = -1152921504606846976 ∧ d = -1) := by
    have hab : (q.natAbs : Nat) ≤ c.natAbs := by
      rw [← hq, Int.natAbs_tdiv]; exact Nat.div_le_self _ _
    refine ⟨by omega, by omega, fun e => ?_⟩
    have hc : c = -1152921504606846976 := by omega
    refine ⟨hc, ?_⟩
    subst e
    omega
  refine ⟨?_, fun _ => by omega, fun _ => by omega, hr1, hr2, fits_fwrap _, ?_, ?_⟩
  · rw [fwrap_addl]
    have : fwrap (d * fwrap q + r) = fwrap (d * q + r) := by
      obtain ⟨k, hk⟩ := fwrap_is q
      rw [hk, Int.mul_add, show d * q + d * (2305843009213693952 * k) + r = d * q + r + 2305843009213693952 * (d * k) by rw [Int.mul_left_comm]; omega, fwrap_k]
    rw [this, hm]
    exact fwrap_of_fits ⟨b1, b2⟩
  · unfold fitsB; rw [decide_eq_true_eq]; omega
  · intro hc hz
    by_cases e : q = 1152921504606846976
    · exact .inl (hqb.2.2 e)
    · rw [fwrap_of_fits (by omega)] at hz ⊢
      omega
end Go.Proofs.Yteepkghjphmegab
