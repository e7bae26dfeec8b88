/- decimal numerals: plain mathematics -/
import Derived.Lib.ItoaLen
import Derived.Lib.ItoaMem
import Derived.Lib.ItoaNum
import Derived.Test.YtkgdignpjammbaaDoorRows
namespace Go.Proofs.YtkgdignpjammbaaDoor
set_option linter.unusedVariables false
set_option linter.unusedSimpArgs false
open Go.Lib

theorem pow_le_digits : ∀ u : Nat, 1 ≤ u → 10 ^ (nDigits u - 1) ≤ u := by
  intro u
  induction u using Nat.strongRecOn with
  | ind u ih =>
    intro h
    by_cases h10 : u < 10
    · rw [nDigits_small h10]; simpa using h
    · rw [nDigits_big h10]
      have h1 : 1 ≤ u / 10 := by omega
      have := ih (u / 10) (by omega) h1
      have hp := nDigits_pos (u / 10)
      obtain ⟨m, hm⟩ : ∃ m, nDigits (u / 10) = m + 1 := ⟨nDigits (u / 10) - 1, by omega⟩
      rw [hm] at this ⊢
      simp only [Nat.add_sub_cancel] at this ⊢
      rw [Nat.pow_succ]
      have : 10 ^ m * 10 ≤ u / 10 * 10 := Nat.mul_le_mul_right _ this
      omega
/-- what the first t digits tell -/
def topV (u t : Nat) : Nat := u / 10 ^ (nDigits u - t)
theorem top_zero (u : Nat) : topV u 0 = 0 := Nat.div_eq_of_lt (lt_pow_nDigits u)
theorem top_all (u : Nat) : topV u (nDigits u) = u := by unfold topV; simp
theorem top_le (u t : Nat) : topV u t ≤ u := Nat.div_le_self _ _
/-- the digit at place t from the left -/
def digV (u t : Nat) : Nat := u / 10 ^ (nDigits u - 1 - t) % 10
theorem dig_lt (u t : Nat) : digV u t < 10 := Nat.mod_lt _ (by decide)
theorem top_succ (u t : Nat) (h : t < nDigits u) : topV u (t + 1) = 10 * topV u t + digV u t := by
  unfold topV digV
  obtain ⟨j, hj⟩ : ∃ j, nDigits u - t = j + 1 := ⟨nDigits u - t - 1, by omega⟩
  rw [hj, show nDigits u - (t + 1) = j from by omega, show nDigits u - 1 - t = j from by omega, Nat.pow_succ, ← Nat.div_div_eq_div_mul]
  omega
theorem dig_first (u : Nat) (h : 1 ≤ u) : 1 ≤ digV u 0 := by
  unfold digV
  have h1 := pow_le_digits u h
  have h2 := lt_pow_nDigits u
  have hp := nDigits_pos u
  rw [Nat.sub_zero]
  have h3 : u / 10 ^ (nDigits u - 1) < 10 := by
    rw [Nat.div_lt_iff_lt_mul (Nat.pow_pos (by decide)), ← Nat.pow_succ', Nat.succ_eq_add_one, Nat.sub_add_cancel hp]
    exact h2
  rw [Nat.mod_eq_of_lt h3]
  exact (Nat.one_le_div_iff (Nat.pow_pos (by decide))).2 h1
theorem dec_at (u t : Nat) (h : t < (decDigits u).length) : ((decDigits u)[t]).toNat = 48 + digV u t := by
  have e : (decDigits u)[t]? = some (dg u (nDigits u - 1 - t)) := by
    have hl : t < nDigits u := by rw [decDigits_length] at h; exact h
    rw [decDigits_eq, List.getElem?_map, List.getElem?_range hl]; rfl
  rw [List.getElem?_eq_getElem h] at e
  rw [Option.some.inj e]
  unfold dg digV
  have : u / 10 ^ (nDigits u - 1 - t) % 10 < 10 := Nat.mod_lt _ (by decide)
  simp only [UInt8.toNat_ofNat']
  omega
/-- a numeral's text: below 0 -/
theorem text_neg (n : Int) (h : n < 0) {s : ByteArray} (hs : s = ⟨(itoa n).toArray⟩) : s.size = nDigits n.natAbs + 1 ∧ (∀ h0 : 0 < s.size, (s[0]'h0).toNat = 45) ∧ ∀ t (ht : t < nDigits n.natAbs) (hb : t + 1 < s.size), (s[t + 1]'hb).toNat = 48 + digV n.natAbs t := by
  have e : itoa n = 45 :: decDigits n.natAbs := by unfold itoa; rw [if_pos h]
  subst hs
  rw [e]
  refine ⟨by simp [ByteArray.size, decDigits_length], fun h0 => rfl, fun t ht hb => ?_⟩
  have := dec_at n.natAbs t (by rw [decDigits_length]; exact ht)
  rw [← this]
  rfl
theorem text_pos (n : Int) (h : 0 ≤ n) {s : ByteArray} (hs : s = ⟨(itoa n).toArray⟩) : s.size = nDigits n.natAbs ∧ ∀ t (ht : t < nDigits n.natAbs) (hb : t < s.size), (s[t]'hb).toNat = 48 + digV n.natAbs t := by
  have e : itoa n = decDigits n.natAbs := by unfold itoa; rw [if_neg (by omega)]; congr 1; omega
  subst hs
  rw [e]
  refine ⟨by simp [ByteArray.size, decDigits_length], fun t ht hb => ?_⟩
  have := dec_at n.natAbs t (by rw [decDigits_length]; exact ht)
  rw [← this]
  rfl
end Go.Proofs.YtkgdignpjammbaaDoor
