/- rows of bits: plain mathematics -/
namespace Go.Proofs.Yteepkghjphmegaa

/-- bit i of the whole number v, as two's complement has it -/
def bit (v : Int) (i : Nat) : Int := v / 2 ^ i % 2

theorem pow_pos' (i : Nat) : (0 : Int) < 2 ^ i := Int.pow_pos (by decide)
theorem bit_01 (v : Int) (i : Nat) : 0 ≤ bit v i ∧ bit v i ≤ 1 := by unfold bit; omega
theorem pow_succ' (i : Nat) : (2 : Int) ^ (i + 1) = 2 * 2 ^ i := by rw [Int.pow_succ]; omega
theorem div_succ (v : Int) (i : Nat) : v / 2 ^ (i + 1) = v / 2 ^ i / 2 := by
  have := pow_pos' i
  rw [Int.pow_succ, Int.ediv_ediv_of_nonneg (by omega)]
theorem mod_succ (v : Int) (i : Nat) : v % 2 ^ (i + 1) = v % 2 ^ i + 2 ^ i * bit v i := by
  have h1 := Int.mul_ediv_add_emod v (2 ^ i)
  have h2 := Int.mul_ediv_add_emod v (2 ^ (i + 1))
  rw [div_succ] at h2
  have h3 := Int.mul_ediv_add_emod (v / 2 ^ i) 2
  unfold bit
  rw [Int.pow_succ] at h2
  have : 2 ^ i * 2 * (v / 2 ^ i / 2) = 2 ^ i * (2 * (v / 2 ^ i / 2)) := by rw [Int.mul_assoc]
  rw [this] at h2
  have h4 : 2 ^ i * (v / 2 ^ i) = 2 ^ i * (2 * (v / 2 ^ i / 2)) + 2 ^ i * (v / 2 ^ i % 2) := by rw [← Int.mul_add, h3]
  rw [Int.pow_succ]
  omega
/-- what is carried into column i of a sum -/
def carry (a b : Int) (i : Nat) : Int := (a % 2 ^ i + b % 2 ^ i) / 2 ^ i
theorem carry_01 (a b : Int) (i : Nat) : 0 ≤ carry a b i ∧ carry a b i ≤ 1 := by
  have hp := pow_pos' i
  have h1 := Int.emod_nonneg a (Int.ne_of_gt hp)
  have h2 := Int.emod_nonneg b (Int.ne_of_gt hp)
  have h3 := Int.emod_lt_of_pos a hp
  have h4 := Int.emod_lt_of_pos b hp
  unfold carry
  refine ⟨Int.ediv_nonneg (by omega) (by omega), ?_⟩
  have : (a % 2 ^ i + b % 2 ^ i) / 2 ^ i < 2 := Int.ediv_lt_of_lt_mul hp (by omega)
  omega
theorem div_add (a b : Int) (i : Nat) : (a + b) / 2 ^ i = a / 2 ^ i + b / 2 ^ i + carry a b i := by
  have hp := pow_pos' i
  have h1 := Int.mul_ediv_add_emod a (2 ^ i)
  have h2 := Int.mul_ediv_add_emod b (2 ^ i)
  have e : a + b = (a % 2 ^ i + b % 2 ^ i) + 2 ^ i * (a / 2 ^ i + b / 2 ^ i) := by rw [Int.mul_add]; omega
  rw [e, Int.add_mul_ediv_left _ _ (Int.ne_of_gt hp)]
  have : ∀ x : Int, (2 ^ i * x) % 2 ^ i = 0 := fun x => by simp
  unfold carry; omega
theorem bit_add (a b : Int) (i : Nat) : (bit a i + bit b i + carry a b i) % 2 = bit (a + b) i := by
  unfold bit; rw [div_add]; omega
theorem carry_succ (a b : Int) (i : Nat) : (bit a i + bit b i + carry a b i) / 2 = carry a b (i + 1) := by
  have hp := pow_pos' i
  have e : carry a b (i + 1) = (a % 2 ^ i + b % 2 ^ i + 2 ^ i * (bit a i + bit b i)) / 2 ^ (i + 1) := by
    unfold carry; rw [mod_succ, mod_succ, Int.mul_add]; congr 1; omega
  rw [e, Int.pow_succ, ← Int.ediv_ediv_of_nonneg (by omega), Int.add_mul_ediv_left _ _ (Int.ne_of_gt hp)]
  unfold carry; omega
theorem carry_zero (a b : Int) : carry a b 0 = 0 := by unfold carry; simp [Int.emod_one]
theorem bit_not (a : Int) (i : Nat) : 1 - bit a i = bit (-a - 1) i := by
  have hp := pow_pos' i
  have h1 := Int.mul_ediv_add_emod a (2 ^ i)
  have h3 := Int.emod_lt_of_pos a hp
  have h2 := Int.emod_nonneg a (Int.ne_of_gt hp)
  have e : -a - 1 = (2 ^ i - 1 - a % 2 ^ i) + 2 ^ i * (-(a / 2 ^ i) - 1) := by
    rw [Int.mul_sub, Int.mul_neg]; omega
  have d : (-a - 1) / 2 ^ i = -(a / 2 ^ i) - 1 := by
    rw [e, Int.add_mul_ediv_left _ _ (Int.ne_of_gt hp), Int.ediv_eq_zero_of_lt (by omega) (by omega)]
    have hx : (2 ^ i - 1 - a % 2 ^ i + 2 ^ i * (-(a / 2 ^ i) - 1)) = -a - 1 := by omega
    omega
  unfold bit; rw [d]; omega
/-- the bits below m hang on v modulo 2^m alone -/
theorem bit_mod (v : Int) (m i : Nat) (h : i < m) : bit (v % 2 ^ m) i = bit v i := by
  obtain ⟨d, rfl⟩ : ∃ d, m = i + 1 + d := ⟨m - (i + 1), by omega⟩
  have hp := pow_pos' i
  have h1 := Int.mul_ediv_add_emod v (2 ^ (i + 1 + d))
  have e : v % 2 ^ (i + 1 + d) = v + 2 ^ i * (2 * (-(2 ^ d * (v / 2 ^ (i + 1 + d))))) := by
    have : (2 : Int) ^ (i + 1 + d) = 2 ^ i * 2 * 2 ^ d := by rw [Int.pow_add, Int.pow_succ]
    have h2 : 2 ^ (i + 1 + d) * (v / 2 ^ (i + 1 + d)) = 2 ^ i * (2 * (2 ^ d * (v / 2 ^ (i + 1 + d)))) := by
      conv => lhs; lhs; rw [this]
      simp [Int.mul_assoc]
    rw [h2] at h1
    rw [Int.mul_neg, Int.mul_neg]; omega
  unfold bit
  rw [e, Int.add_mul_ediv_left _ _ (Int.ne_of_gt hp)]; omega
theorem bit_congr {a b : Int} {m i : Nat} (hi : i < m) (h : a % 2 ^ m = b % 2 ^ m) : bit a i = bit b i := by
  rw [← bit_mod a m i hi, ← bit_mod b m i hi, h]
/-- a number times 2^i: its bits are moved up -/
theorem bit_shift (a : Int) (i j : Nat) : bit (a * 2 ^ i) (i + j) = bit a j := by
  have hp := pow_pos' i
  unfold bit
  rw [Int.pow_add, ← Int.ediv_ediv_of_nonneg (by omega), Int.mul_ediv_cancel _ (Int.ne_of_gt hp)]
theorem bit_shift_low (a : Int) (i j : Nat) (h : j < i) : bit (a * 2 ^ i) j = 0 := by
  obtain ⟨d, rfl⟩ : ∃ d, i = j + 1 + d := ⟨i - (j + 1), by omega⟩
  have hp := pow_pos' j
  have e : a * 2 ^ (j + 1 + d) = (2 * (a * 2 ^ d)) * 2 ^ j := by
    rw [Int.pow_add, Int.pow_succ]; simp only [Int.mul_comm, Int.mul_left_comm, Int.mul_assoc]
  unfold bit
  rw [e, Int.mul_ediv_cancel _ (Int.ne_of_gt hp)]; omega
theorem bit_zero_num (i : Nat) : bit 0 i = 0 := by unfold bit; simp
theorem bit_big (u : Int) (i : Nat) (h0 : 0 ≤ u) (h : u < 2 ^ i) : bit u i = 0 := by
  unfold bit; rw [Int.ediv_eq_zero_of_lt h0 h]; rfl
theorem mod_01_bit (a : Int) (i : Nat) : a / 2 ^ i % 2 = bit a i := rfl
end Go.Proofs.Yteepkghjphmegaa
