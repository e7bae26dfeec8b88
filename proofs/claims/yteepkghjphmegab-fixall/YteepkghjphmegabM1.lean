/- floats: plain mathematics -/
import Derived.Test.YteepkghjphmegabFx
namespace Go.Proofs.Yteepkghjphmegab
open Go.ChangeShapes Go.WideShapes Go.ChangeAt Go.RowKit
set_option linter.unusedVariables false
set_option linter.unusedSimpArgs false

def rg (b : Int) : Int := b % 9223372036854775808

def pNeg (b : Int) : Bool := decide (b < 0)

def pInf (b : Int) : Bool := decide (rg b = 9218868437227405312)

def pNone (b : Int) : Bool := decide (9218868437227405312 < rg b)

def pWhole (b : Int) : Int := if rg b < 4503599627370496 then rg b else if rg b < 9218868437227405312 then rg b % 4503599627370496 + 4503599627370496 else 0

def pExp (b : Int) : Int := if rg b < 4503599627370496 then -1074 else if rg b < 9218868437227405312 then rg b / 4503599627370496 - 1075 else 0

def flo (b : Int) : Value := .agg #[.bool (pNeg b), .bool (pInf b), .bool (pNone b), .int .i64 (pWhole b), .int .i64 (pExp b)]

def canonV (b : Int) : Int := if pNone b = true then noNum else b

theorem ret_agg {a b : Value} (h : a = b) : Ending.returned a = .returned b := by rw [h]

theorem i64_bounds {v : Int} (h : (Lit.int .i64 v).wf = true) : -9223372036854775808 ≤ v ∧ v ≤ 9223372036854775807 := by
  simpa [Lit.wf, IntKind.min, IntKind.max, IntKind.signed, IntKind.bits] using h

theorem flo_mk {b : Int} {n i z : Bool} {wh ex : Int} (h1 : n = pNeg b) (h2 : i = pInf b) (h3 : z = pNone b) (h4 : wh = pWhole b) (h5 : ex = pExp b) :
    Value.agg #[.bool n, .bool i, .bool z, .int .i64 wh, .int .i64 ex] = flo b := by
  subst h1; subst h2; subst h3; subst h4; subst h5; rfl

theorem f64_sign : FloatKind.f64.format.signWeight = 9223372036854775808 := by decide

theorem f64_inf : FloatKind.f64.format.infRung = 9218868437227405312 := by decide

theorem f64_bin : FloatKind.f64.format.binade = 4503599627370496 := by decide

theorem f64_least : FloatKind.f64.format.leastPlace = -1074 := by decide

theorem pat_cast (b : Int) : ((pat b : Nat) : Int) = b % 18446744073709551616 := by
  unfold pat
  have e : IntKind.u64.wrap b = b % 18446744073709551616 := by simp [IntKind.wrap, IntKind.signed, IntKind.bits]
  rw [e]; omega

theorem pat_lt (b : Int) : pat b < 18446744073709551616 := by have := pat_cast b; omega

theorem wrap_pat (b : Int) (h1 : -9223372036854775808 ≤ b) (h2 : b ≤ 9223372036854775807) : wrap64 (pat b : Nat) = b := by
  unfold wrap64; rw [pat_cast]; omega

theorem read_pat (b : Int) (h1 : -9223372036854775808 ≤ b) (h2 : b ≤ 9223372036854775807) :
    FloatKind.f64.format.read (pat b) = if pNone b = true then .nan (pNeg b) (rg b - 9218868437227405312).toNat else if pInf b = true then .infinity (pNeg b) else .number (pNeg b) (pWhole b).toNat (pExp b) := by
  have hc := pat_cast b
  have hs : (pat b / 9223372036854775808 % 2 == 1) = pNeg b := by
    unfold pNeg; rw [Bool.eq_iff_iff]; simp; omega
  have hr : ((pat b % 9223372036854775808 : Nat) : Int) = rg b := by unfold rg; omega
  unfold Ieee.Format.read
  rw [f64_sign, f64_inf, f64_bin, f64_least, hs]
  generalize pat b % 9223372036854775808 = m at hr
  unfold pNone pInf pWhole pExp
  rw [← hr]
  by_cases c1 : m < 4503599627370496
  · have d1 : ¬ (9218868437227405312 : Int) < (m : Int) := by omega
    have d2 : ¬ (m : Int) = 9218868437227405312 := by omega
    have d3 : (m : Int) < 4503599627370496 := by omega
    simp [c1, d1, d2, d3]
  · by_cases c2 : m < 9218868437227405312
    · have d1 : ¬ (9218868437227405312 : Int) < (m : Int) := by omega
      have d2 : ¬ (m : Int) = 9218868437227405312 := by omega
      have d3 : ¬ (m : Int) < 4503599627370496 := by omega
      have d4 : (m : Int) < 9218868437227405312 := by omega
      simp only [c1, c2, d1, d2, d3, d4, if_true, if_false, decide_false, Bool.false_eq_true]
      congr 1 <;> omega
    · by_cases c3 : m = 9218868437227405312
      · have d1 : ¬ (9218868437227405312 : Int) < (m : Int) := by omega
        have d2 : (m : Int) = 9218868437227405312 := by omega
        have e1 : decide ((9218868437227405312 : Int) < (m : Int)) = false := decide_eq_false d1
        have e2 : decide ((m : Int) = 9218868437227405312) = true := decide_eq_true d2
        rw [e1, e2, if_neg c1, if_neg c2, if_pos c3]
        rfl
      · have d1 : (9218868437227405312 : Int) < (m : Int) := by omega
        have e1 : decide ((9218868437227405312 : Int) < (m : Int)) = true := decide_eq_true d1
        have e3 : m - 9218868437227405312 = ((m : Int) - 9218868437227405312).toNat := by omega
        rw [e1, if_neg c1, if_neg c2, if_neg c3, e3]
        rfl

theorem cmp_self (x : Int) : compare x x = Ordering.eq := by simp

theorem order_self (b : Int) (h1 : -9223372036854775808 ≤ b) (h2 : b ≤ 9223372036854775807) : FloatKind.f64.format.order (pat b) (pat b) = if pNone b = true then none else some .eq := by
  unfold Ieee.Format.order
  rw [read_pat b h1 h2]
  by_cases c : pNone b = true
  · simp [c, Ieee.Datum.order]
  · by_cases d : pInf b = true
    · simp [c, d, Ieee.Datum.order]
    · simp [c, d, Ieee.Datum.order]

theorem bitsOf_pat (b : Int) (h1 : -9223372036854775808 ≤ b) (h2 : b ≤ 9223372036854775807) : bitsOf (pat b) = canonV b := by
  unfold bitsOf canonV
  rw [order_self b h1 h2]
  by_cases c : pNone b = true
  · simp [c]
  · simp [c, wrap_pat b h1 h2]

theorem same_pat (b : Int) (h1 : -9223372036854775808 ≤ b) (h2 : b ≤ 9223372036854775807) : (FloatKind.f64.format.order (pat b) (pat b) == some Ordering.eq) = !pNone b := by
  rw [order_self b h1 h2]; cases pNone b <;> simp

/-- bit i of the whole number v, as two's complement has it -/
def bit (v : Int) (i : Nat) : Int := v / 2 ^ i % 2

theorem pow_pos' (i : Nat) : (0 : Int) < 2 ^ i := Int.pow_pos (by decide)

theorem bit_01 (v : Int) (i : Nat) : 0 ≤ bit v i ∧ bit v i ≤ 1 := by unfold bit; omega

theorem pow_succ' (i : Nat) : (2 : Int) ^ (i + 1) = 2 * 2 ^ i := by rw [Int.pow_succ]; omega

theorem div_succ (v : Int) (i : Nat) : v / 2 ^ (i + 1) = v / 2 ^ i / 2 := by
  have := pow_pos' i
  rw [Int.pow_succ, Int.ediv_ediv_of_nonneg (by omega)]

theorem mod_succ (v : Int) (i : Nat) : v % 2 ^ (i + 1) = v % 2 ^ i + 2 ^ i * bit v i := by
  have h1 := Int.mul_ediv_add_emod v (2 ^ i)
  have h2 := Int.mul_ediv_add_emod v (2 ^ (i + 1))
  rw [div_succ] at h2
  have h3 := Int.mul_ediv_add_emod (v / 2 ^ i) 2
  unfold bit
  rw [Int.pow_succ] at h2
  have : 2 ^ i * 2 * (v / 2 ^ i / 2) = 2 ^ i * (2 * (v / 2 ^ i / 2)) := by rw [Int.mul_assoc]
  rw [this] at h2
  have h4 : 2 ^ i * (v / 2 ^ i) = 2 ^ i * (2 * (v / 2 ^ i / 2)) + 2 ^ i * (v / 2 ^ i % 2) := by rw [← Int.mul_add, h3]
  rw [Int.pow_succ]
  omega

/-- what is carried into column i of a sum -/
def carry (a b : Int) (i : Nat) : Int := (a % 2 ^ i + b % 2 ^ i) / 2 ^ i

theorem carry_01 (a b : Int) (i : Nat) : 0 ≤ carry a b i ∧ carry a b i ≤ 1 := by
  have hp := pow_pos' i
  have h1 := Int.emod_nonneg a (Int.ne_of_gt hp)
  have h2 := Int.emod_nonneg b (Int.ne_of_gt hp)
  have h3 := Int.emod_lt_of_pos a hp
  have h4 := Int.emod_lt_of_pos b hp
  unfold carry
  refine ⟨Int.ediv_nonneg (by omega) (by omega), ?_⟩
  have : (a % 2 ^ i + b % 2 ^ i) / 2 ^ i < 2 := Int.ediv_lt_of_lt_mul hp (by omega)
  omega

theorem div_add (a b : Int) (i : Nat) : (a + b) / 2 ^ i = a / 2 ^ i + b / 2 ^ i + carry a b i := by
  have hp := pow_pos' i
  have h1 := Int.mul_ediv_add_emod a (2 ^ i)
  have h2 := Int.mul_ediv_add_emod b (2 ^ i)
  have e : a + b = (a % 2 ^ i + b % 2 ^ i) + 2 ^ i * (a / 2 ^ i + b / 2 ^ i) := by rw [Int.mul_add]; omega
  rw [e, Int.add_mul_ediv_left _ _ (Int.ne_of_gt hp)]
  have : ∀ x : Int, (2 ^ i * x) % 2 ^ i = 0 := fun x => by simp
  unfold carry; omega

theorem bit_add (a b : Int) (i : Nat) : (bit a i + bit b i + carry a b i) % 2 = bit (a + b) i := by
  unfold bit; rw [div_add]; omega

theorem carry_succ (a b : Int) (i : Nat) : (bit a i + bit b i + carry a b i) / 2 = carry a b (i + 1) := by
  have hp := pow_pos' i
  have e : carry a b (i + 1) = (a % 2 ^ i + b % 2 ^ i + 2 ^ i * (bit a i + bit b i)) / 2 ^ (i + 1) := by
    unfold carry; rw [mod_succ, mod_succ, Int.mul_add]; congr 1; omega
  rw [e, Int.pow_succ, ← Int.ediv_ediv_of_nonneg (by omega), Int.add_mul_ediv_left _ _ (Int.ne_of_gt hp)]
  unfold carry; omega

theorem carry_zero (a b : Int) : carry a b 0 = 0 := by unfold carry; simp [Int.emod_one]

theorem bit_not (a : Int) (i : Nat) : 1 - bit a i = bit (-a - 1) i := by
  have hp := pow_pos' i
  have h1 := Int.mul_ediv_add_emod a (2 ^ i)
  have h3 := Int.emod_lt_of_pos a hp
  have h2 := Int.emod_nonneg a (Int.ne_of_gt hp)
  have e : -a - 1 = (2 ^ i - 1 - a % 2 ^ i) + 2 ^ i * (-(a / 2 ^ i) - 1) := by
    rw [Int.mul_sub, Int.mul_neg]; omega
  have d : (-a - 1) / 2 ^ i = -(a / 2 ^ i) - 1 := by
    rw [e, Int.add_mul_ediv_left _ _ (Int.ne_of_gt hp), Int.ediv_eq_zero_of_lt (by omega) (by omega)]
    have hx : (2 ^ i - 1 - a % 2 ^ i + 2 ^ i * (-(a / 2 ^ i) - 1)) = -a - 1 := by omega
    omega
  unfold bit; rw [d]; omega

/-- the bits below m hang on v modulo 2^m alone -/
theorem bit_mod (v : Int) (m i : Nat) (h : i < m) : bit (v % 2 ^ m) i = bit v i := by
  obtain ⟨d, rfl⟩ : ∃ d, m = i + 1 + d := ⟨m - (i + 1), by omega⟩
  have hp := pow_pos' i
  have h1 := Int.mul_ediv_add_emod v (2 ^ (i + 1 + d))
  have e : v % 2 ^ (i + 1 + d) = v + 2 ^ i * (2 * (-(2 ^ d * (v / 2 ^ (i + 1 + d))))) := by
    have : (2 : Int) ^ (i + 1 + d) = 2 ^ i * 2 * 2 ^ d := by rw [Int.pow_add, Int.pow_succ]
    have h2 : 2 ^ (i + 1 + d) * (v / 2 ^ (i + 1 + d)) = 2 ^ i * (2 * (2 ^ d * (v / 2 ^ (i + 1 + d)))) := by
      conv => lhs; lhs; rw [this]
      simp [Int.mul_assoc]
    rw [h2] at h1
    rw [Int.mul_neg, Int.mul_neg]; omega
  unfold bit
  rw [e, Int.add_mul_ediv_left _ _ (Int.ne_of_gt hp)]; omega

theorem bit_congr {a b : Int} {m i : Nat} (hi : i < m) (h : a % 2 ^ m = b % 2 ^ m) : bit a i = bit b i := by
  rw [← bit_mod a m i hi, ← bit_mod b m i hi, h]

/-- a number times 2^i: its bits are moved up -/
theorem bit_shift (a : Int) (i j : Nat) : bit (a * 2 ^ i) (i + j) = bit a j := by
  have hp := pow_pos' i
  unfold bit
  rw [Int.pow_add, ← Int.ediv_ediv_of_nonneg (by omega), Int.mul_ediv_cancel _ (Int.ne_of_gt hp)]

theorem bit_shift_low (a : Int) (i j : Nat) (h : j < i) : bit (a * 2 ^ i) j = 0 := by
  obtain ⟨d, rfl⟩ : ∃ d, i = j + 1 + d := ⟨i - (j + 1), by omega⟩
  have hp := pow_pos' j
  have e : a * 2 ^ (j + 1 + d) = (2 * (a * 2 ^ d)) * 2 ^ j := by
    rw [Int.pow_add, Int.pow_succ]; simp only [Int.mul_comm, Int.mul_left_comm, Int.mul_assoc]
  unfold bit
  rw [e, Int.mul_ediv_cancel _ (Int.ne_of_gt hp)]; omega

theorem bit_zero_num (i : Nat) : bit 0 i = 0 := by unfold bit; simp

theorem bit_big (u : Int) (i : Nat) (h0 : 0 ≤ u) (h : u < 2 ^ i) : bit u i = 0 := by
  unfold bit; rw [Int.ediv_eq_zero_of_lt h0 h]; rfl

theorem mod_01_bit (a : Int) (i : Nat) : a / 2 ^ i % 2 = bit a i := rfl

theorem pow_le_pow {i j : Nat} (h : i ≤ j) : (2 : Int) ^ i ≤ 2 ^ j := by
  have := Nat.pow_le_pow_right (n := 2) (by decide) h
  exact_mod_cast this

/-- the bit at a place that may lie outside -/
def atV (N i : Int) : Int := if i < 0 then 0 else bit N i.toNat

theorem atV_01 (N i : Int) : 0 ≤ atV N i ∧ atV N i ≤ 1 := by
  unfold atV; split
  · omega
  · exact bit_01 _ _

/-- the place of the first bit of N; -1: there is none -/
def topV (N h : Int) : Prop := (N = 0 ∧ h = -1) ∨ (0 ≤ h ∧ 2 ^ h.toNat ≤ N ∧ N < 2 ^ (h.toNat + 1))

theorem top_step {N : Int} {k : Nat} (h0 : 0 ≤ N) (h : N < 2 ^ (k + 1)) (hb : bit N k = 0) : N < 2 ^ k := by
  have hp := pow_pos' k
  unfold bit at hb
  rw [pow_succ'] at h
  have h1 : N / 2 ^ k < 2 := Int.ediv_lt_of_lt_mul hp (by omega)
  have h2 : 0 ≤ N / 2 ^ k := Int.ediv_nonneg h0 (by omega)
  have h3 : N / 2 ^ k = 0 := by omega
  have h4 := Int.mul_ediv_add_emod N (2 ^ k)
  have h5 := Int.emod_lt_of_pos N hp
  rw [h3] at h4; omega

theorem top_end {N : Int} {k : Nat} (h0 : 0 ≤ N) (hb : bit N k ≠ 0) : 2 ^ k ≤ N := by
  by_cases h : 2 ^ k ≤ N
  · exact h
  · exact absurd (bit_big N k h0 (by omega)) hb

theorem hid_mk {p : Prop} (h : p) : Hid p := h

def signedV (neg : Bool) (b : Int) : Int := if neg = true then b + -9223372036854775808 else b

/-- N without its bits below the place low (which may lie below 0) -/
def flV (N low : Int) : Int := if 0 ≤ low then N / 2 ^ low.toNat else N * 2 ^ (-low).toNat

theorem flV_step (N i : Int) : flV N i = flV N (i + 1) + flV N (i + 1) + atV N i := by
  unfold flV atV
  by_cases h : 0 ≤ i
  · rw [if_pos h, if_pos (by omega), if_neg (by omega)]
    have e : (i + 1).toNat = i.toNat + 1 := by omega
    rw [e, div_succ]; unfold bit; omega
  · rw [if_neg h]
    have ea : (if i < 0 then (0 : Int) else bit N i.toNat) = 0 := if_pos (by omega)
    rw [ea]
    by_cases h2 : i = -1
    · subst h2
      rw [if_pos (by omega)]
      have e1 : (-(-1 : Int)).toNat = 1 := by decide
      have e2 : ((-1 : Int) + 1).toNat = 0 := by decide
      rw [e1, e2]; simp; omega
    · rw [if_neg (by omega)]
      have e : (-i).toNat = (-(i + 1)).toNat + 1 := by omega
      rw [e, pow_succ', Int.mul_left_comm]; omega

theorem flV_nonneg (N i : Int) (h : 0 ≤ N) : 0 ≤ flV N i := by
  unfold flV; split
  · exact Int.ediv_nonneg h (Int.le_of_lt (pow_pos' _))
  · exact Int.mul_nonneg h (Int.le_of_lt (pow_pos' _))

theorem flV_lt (N i : Int) (k : Nat) (hN : 0 ≤ N) (h : N < 2 ^ k) (hi : i ≤ k) : flV N i < 2 ^ ((k : Int) - i).toNat := by
  unfold flV
  by_cases h0 : 0 ≤ i
  · rw [if_pos h0]
    apply Int.ediv_lt_of_lt_mul (pow_pos' _)
    rw [← Int.pow_add]
    have e : ((k : Int) - i).toNat + i.toNat = k := by omega
    rw [e]; exact h
  · rw [if_neg h0]
    have e : ((k : Int) - i).toNat = k + (-i).toNat := by omega
    rw [e, Int.pow_add]
    exact Int.mul_lt_mul_of_pos_right h (pow_pos' _)

theorem flV_ge (N i : Int) (k : Nat) (h : 2 ^ k ≤ N) (hi : i ≤ k) : 2 ^ ((k : Int) - i).toNat ≤ flV N i := by
  unfold flV
  by_cases h0 : 0 ≤ i
  · rw [if_pos h0]
    apply Int.le_ediv_of_mul_le (pow_pos' _)
    rw [← Int.pow_add]
    have e : ((k : Int) - i).toNat + i.toNat = k := by omega
    rw [e]; exact h
  · rw [if_neg h0]
    have e : ((k : Int) - i).toNat = k + (-i).toNat := by omega
    rw [e, Int.pow_add]
    exact Int.mul_le_mul_of_nonneg_right h (Int.le_of_lt (pow_pos' _))

theorem flV_zero (N i : Int) (k : Nat) (hN : 0 ≤ N) (h : N < 2 ^ k) (hi : (k : Int) ≤ i) : flV N i = 0 := by
  unfold flV
  rw [if_pos (by omega)]
  exact Int.ediv_eq_zero_of_lt hN (Int.lt_of_lt_of_le h (pow_le_pow (by omega)))

theorem pow53 : (2 : Int) ^ 53 = 9007199254740992 := by decide

theorem pow52 : (2 : Int) ^ 52 = 4503599627370496 := by decide

theorem flV_53 (N i : Int) (k : Nat) (hN : 0 ≤ N) (h : N < 2 ^ (k + 1)) (hi : (k : Int) - 52 ≤ i) : flV N i < 9007199254740992 := by
  by_cases h1 : i ≤ ((k + 1 : Nat) : Int)
  · have := flV_lt N i (k + 1) hN h h1
    have h2 : (2 : Int) ^ (((k + 1 : Nat) : Int) - i).toNat ≤ 2 ^ 53 := pow_le_pow (by omega)
    rw [pow53] at h2; omega
  · rw [flV_zero N i (k + 1) hN h (by omega)]; omega

def lowV (h exp : Int) : Int := max (h - 52) (-1074 - exp)

def restB (N : Int) (k : Nat) : Bool := decide (N % 2 ^ k ≠ 0)

theorem restB_succ (N : Int) (k : Nat) : restB N (k + 1) = (restB N k || bit N k == 1) := by
  have hp := pow_pos' k
  have h1 := mod_succ N k
  have h2 := Int.emod_nonneg N (Int.ne_of_gt hp)
  have h3 := bit_01 N k
  unfold restB
  rw [Bool.eq_iff_iff]
  simp only [decide_eq_true_eq, Bool.or_eq_true, beq_iff_eq]
  have hb : bit N k = 0 ∨ bit N k = 1 := by omega
  rcases hb with e | e <;> rw [e] at h1 ⊢
  · rw [h1]; simp
  · rw [h1]; simp; omega

def upB (N low : Int) (more : Bool) : Bool := atV N (low - 1) == 1 && (more || restB N (low - 1).toNat || flV N low % 2 == 1)

/-- the rung that is nearest to N * 2 ^ exp, and a little more where there is more -/
def rungV (N h exp : Int) (more : Bool) : Int :=
  min ((lowV h exp + exp + 1074) * 4503599627370496 + flV N (lowV h exp) + (if upB N (lowV h exp) more = true then 1 else 0)) 9218868437227405312

theorem top_log {N h : Int} (hN : 0 < N) (ht : topV N h) : h = (N.toNat.log2 : Int) := by
  rcases ht with ⟨e, _⟩ | ⟨h0, h1, h2⟩
  · omega
  · obtain ⟨n, rfl⟩ : ∃ n : Nat, N = (n : Int) := ⟨N.toNat, by omega⟩
    obtain ⟨k, rfl⟩ : ∃ k : Nat, h = (k : Int) := ⟨h.toNat, by omega⟩
    simp only [Int.toNat_natCast] at *
    have e1 : 2 ^ k ≤ n := by exact_mod_cast h1
    have e2 : n < 2 ^ (k + 1) := by exact_mod_cast h2
    have := (Nat.log2_eq_iff (n := n) (k := k) (by omega)).2 ⟨e1, e2⟩
    omega

def rndV (neg : Bool) (N exp : Int) (more : Bool) : Int := if N = 0 then signedV neg 0 else signedV neg (rungV N (N.toNat.log2 : Int) exp more)

theorem shl_pow (n k : Nat) : n <<< k = n * 2 ^ k := Nat.shiftLeft_eq n k

theorem f64_frac : FloatKind.f64.format.fractionBits = 52 := rfl

/-- half of the units that are dropped, and more -/
theorem half_facts (N : Nat) (k : Nat) : 2 ^ (k + 1) < 2 * (N % 2 ^ (k + 1)) ∨ 2 ^ (k + 1) = 2 * (N % 2 ^ (k + 1)) ∨ 2 * (N % 2 ^ (k + 1)) < 2 ^ (k + 1) := by omega

theorem mod_split (N : Int) (k : Nat) : N % 2 ^ (k + 1) = N % 2 ^ k + 2 ^ k * bit N k := mod_succ N k

theorem nearest_kept (N : Nat) (hN : 0 < N) (low : Int) (hlog : low ≤ (N.log2 : Int) + 2 ∨ (N.log2 : Int) + 2 < low) (neg : Bool) :
    ((Ieee.Toward.even.cut neg (N <<< (-low).toNat) low.toNat : Nat) : Int) = flV N low + (if upB N low false = true then 1 else 0) := by
  have hlt : N < 2 ^ (N.log2 + 1) := Nat.lt_log2_self
  unfold Ieee.Toward.cut
  dsimp only
  by_cases h0 : low ≤ 0
  · have e1 : low.toNat = 0 := by omega
    rw [e1]
    simp only [Nat.zero_min, Nat.shiftLeft_zero, Nat.div_one, Nat.mod_one]
    have hu : upB N low false = false := by
      unfold upB atV; rw [if_pos (by omega)]; rfl
    rw [hu, shl_pow]
    simp
    unfold flV
    by_cases hz : low = 0
    · subst hz; simp
    · rw [if_neg (by omega)]
  · obtain ⟨d, rfl⟩ : ∃ d : Nat, low = ((d + 1 : Nat) : Int) := ⟨low.toNat - 1, by omega⟩
    have e0 : (-((d + 1 : Nat) : Int)).toNat = 0 := by omega
    have e1 : (((d + 1 : Nat) : Int)).toNat = d + 1 := by omega
    have e2 : (((d + 1 : Nat) : Int) - 1) = (d : Int) := by omega
    rw [e0, e1, Nat.shiftLeft_zero]
    have hfl : flV N ((d + 1 : Nat) : Int) = ((N / 2 ^ (d + 1) : Nat) : Int) := by
      unfold flV; rw [if_pos (by omega), e1]; simp
    have hat : atV N (((d + 1 : Nat) : Int) - 1) = bit N d := by
      rw [e2]; unfold atV; rw [if_neg (by omega)]; simp
    have hup : upB N ((d + 1 : Nat) : Int) false = (bit N d == 1 && (restB N d || flV N ((d + 1 : Nat) : Int) % 2 == 1)) := by
      unfold upB; rw [hat, e2]; simp
    rw [hup, hfl]
    by_cases hb : d + 1 ≤ N.log2 + 2
    · rw [Nat.min_eq_left hb, Nat.one_shiftLeft]
      have hp : 0 < 2 ^ d := Nat.two_pow_pos d
      have hm := mod_succ (N : Int) d
      have hr0 : ((N % 2 ^ (d + 1) : Nat) : Int) = (N : Int) % 2 ^ (d + 1) := by simp
      have hr1 : ((N % 2 ^ d : Nat) : Int) = (N : Int) % 2 ^ d := by simp
      have hlt1 : N % 2 ^ d < 2 ^ d := Nat.mod_lt _ hp
      have hps : 2 ^ (d + 1) = 2 * 2 ^ d := by rw [Nat.pow_succ]; omega
      have hpc : ((2 ^ d : Nat) : Int) = (2 : Int) ^ d := by simp
      have hb01 := bit_01 (N : Int) d
      have hrest : restB N d = decide (N % 2 ^ d ≠ 0) := by
        unfold restB; rw [Bool.eq_iff_iff]; simp only [decide_eq_true_eq]; rw [← hr1]; omega
      rw [hrest]
      generalize hq : N / 2 ^ (d + 1) = q
      generalize hR : N % 2 ^ (d + 1) = R at *
      generalize hS : N % 2 ^ d = S at *
      rw [← hr0, ← hr1, ← hpc] at hm
      generalize 2 ^ d = p at *
      rw [hps]
      have hbc : bit (N : Int) d = 0 ∨ bit (N : Int) d = 1 := by omega
      rcases hbc with e | e
      · rw [e] at hm ⊢
        have c1 : ¬ (2 * p < 2 * R) := by omega
        have c2 : (2 * p == 2 * R) = false := by rw [beq_eq_false_iff_ne]; omega
        simp [c1, c2]
      · rw [e] at hm ⊢
        by_cases hs : S = 0
        · have c1 : ¬ (2 * p < 2 * R) := by omega
          have c2 : 2 * p = 2 * R := by omega
          simp only [c1, c2, hs, decide_false, Bool.false_or, beq_self_eq_true, Bool.true_and]
          have hq2 : (((q : Int) % 2 == 1)) = (q % 2 == 1) := by rw [Bool.eq_iff_iff]; simp; omega
          cases hqq : (q % 2 == 1) <;> simp [hqq, hq2]
        · have c1 : 2 * p < 2 * R := by omega
          simp [c1, hs]
    · have hmin : min (d + 1) (N.log2 + 2) = N.log2 + 2 := by omega
      rw [hmin, Nat.one_shiftLeft]
      have h2 : 2 ^ (N.log2 + 2) = 2 * 2 ^ (N.log2 + 1) := by rw [Nat.pow_succ]; omega
      have hNlt : N < 2 ^ (N.log2 + 2) := by omega
      rw [Nat.div_eq_of_lt hNlt, Nat.mod_eq_of_lt hNlt]
      have hz : N / 2 ^ (d + 1) = 0 := Nat.div_eq_of_lt (Nat.lt_of_lt_of_le hNlt (Nat.pow_le_pow_right (by decide) (by omega)))
      have hbz : bit N d = 0 := bit_big N d (by omega) (by
        have : N < 2 ^ d := Nat.lt_of_lt_of_le hlt (Nat.pow_le_pow_right (by decide) (by omega))
        exact_mod_cast this)
      rw [hz, hbz]
      have c1 : ¬ (2 ^ (N.log2 + 2) < 2 * N) := by omega
      have c2 : ¬ (2 ^ (N.log2 + 2) = 2 * N) := by omega
      simp [c1, c2]

theorem word_wrap (neg : Bool) (r : Nat) (h : r < 9223372036854775808) : wrap64 ((FloatKind.f64.format.word neg r : Nat) : Int) = signedV neg r := by
  unfold Ieee.Format.word signedV wrap64
  rw [f64_sign]
  cases neg
  · simp; omega
  · simp; omega

theorem rnd_nearest (neg : Bool) (N : Nat) (exp : Int) : rndV neg N exp false = wrap64 ((FloatKind.f64.format.nearest neg N exp : Nat) : Int) := by
  unfold rndV Ieee.Format.nearest
  by_cases hz : N = 0
  · subst hz
    simp only [if_true, Int.natCast_zero]
    rw [word_wrap neg 0 (by omega)]; simp
  · rw [if_neg (by omega), if_neg hz]
    dsimp only
    rw [f64_frac, f64_least, f64_bin, f64_inf]
    have hlog : (N : Int).toNat.log2 = N.log2 := by simp
    rw [hlog]
    have hl : max (exp + (N.log2 : Int) - ((52 : Nat) : Int)) (-1074) = lowV (N.log2 : Int) exp + exp := by unfold lowV; omega
    rw [hl]
    have hge : -1074 - exp ≤ lowV (N.log2 : Int) exp := by unfold lowV; omega
    have e1 : (exp - (lowV (N.log2 : Int) exp + exp)).toNat = (-(lowV (N.log2 : Int) exp)).toNat := by omega
    have e2 : (lowV (N.log2 : Int) exp + exp - exp).toNat = (lowV (N.log2 : Int) exp).toNat := by omega
    rw [e1, e2]
    have hk := nearest_kept N (by omega) (lowV (N.log2 : Int) exp) (by omega) neg
    generalize hK : Ieee.Toward.even.cut neg (N <<< (-(lowV (N.log2 : Int) exp)).toNat) (lowV (N.log2 : Int) exp).toNat = K at *
    unfold rungV
    generalize hL : lowV (N.log2 : Int) exp = low at *
    rw [Int.add_assoc ((low + exp + 1074) * 4503599627370496), ← hk]
    obtain ⟨A, hA⟩ : ∃ A : Nat, A = (low + exp - -1074).toNat := ⟨_, rfl⟩
    rw [← hA]
    have e3 : low + exp + 1074 = (A : Int) := by omega
    rw [e3]
    clear hA e3 hK hk hL hl e1 e2 hge hlog
    have hmin : ((min (A * 4503599627370496 + K) 9218868437227405312 : Nat) : Int) = min ((A : Int) * 4503599627370496 + (K : Int)) 9218868437227405312 := by
      have hX : ∀ X : Nat, ((min X 9218868437227405312 : Nat) : Int) = min (X : Int) 9218868437227405312 := by intro X; omega
      rw [hX, Int.natCast_add, Int.natCast_mul]; rfl
    have hlt : min (A * 4503599627370496 + K) 9218868437227405312 < 9223372036854775808 := Nat.lt_of_le_of_lt (Nat.min_le_right _ _) (by decide)
    rw [word_wrap neg _ hlt, hmin]

theorem rg_bounds (b : Int) : 0 ≤ rg b ∧ rg b < 9223372036854775808 := by unfold rg; omega

theorem pWhole_bounds (b : Int) : 0 ≤ pWhole b ∧ pWhole b < 9007199254740992 := by
  have := rg_bounds b
  unfold pWhole; split
  · omega
  · split <;> omega

theorem pExp_bounds (b : Int) : -1074 ≤ pExp b ∧ pExp b ≤ 971 := by
  have := rg_bounds b
  unfold pExp; split
  · omega
  · split <;> omega

def lowE (a b : Int) : Int := min (pExp a) (pExp b)

def magL (a b : Int) : Int := pWhole a * 2 ^ (pExp a - lowE a b).toNat

def magR (a b : Int) : Int := pWhole b * 2 ^ (pExp b - lowE a b).toNat

def finAdd (a b : Int) : Int :=
  if pNeg a = pNeg b then rndV (pNeg a) (magL a b + magR a b) (lowE a b) false
  else if magL a b = magR a b then 0
  else if magR a b < magL a b then rndV (pNeg a) (magL a b - magR a b) (lowE a b) false
  else rndV (pNeg b) (magR a b - magL a b) (lowE a b) false

def addV (a b : Int) : Int :=
  if pNone a = true ∨ pNone b = true ∨ (pInf a = true ∧ pInf b = true ∧ pNeg a ≠ pNeg b) then noNum
  else if pInf a = true then a else if pInf b = true then b else finAdd a b

theorem flo_as {b : Int} {x y z : Bool} (hx : x = pNeg b) (hy : y = pInf b) (hz : z = pNone b) : flo b = .agg #[.bool x, .bool y, .bool z, .int .i64 (pWhole b), .int .i64 (pExp b)] := by subst hx; subst hy; subst hz; rfl

theorem mag_cast (p : Int) {x y : Int} (h : x = y) : p * 2 ^ x.toNat = p * 2 ^ y.toNat := by rw [h]

theorem read_word (neg : Bool) (r : Nat) (h : r ≤ 9218868437227405312) : (∃ m e, FloatKind.f64.format.read (FloatKind.f64.format.word neg r) = .number neg m e) ∨ FloatKind.f64.format.read (FloatKind.f64.format.word neg r) = .infinity neg := by
  have hs : (FloatKind.f64.format.word neg r / 9223372036854775808 % 2 == 1) = neg := by
    unfold Ieee.Format.word; rw [f64_sign]
    cases neg
    · simp; omega
    · simp; omega
  have hm : FloatKind.f64.format.word neg r % 9223372036854775808 = r := by
    unfold Ieee.Format.word; rw [f64_sign]
    cases neg
    · simp; omega
    · simp; omega
  unfold Ieee.Format.read
  rw [f64_sign, f64_inf, f64_bin, f64_least, hs, hm]
  dsimp only
  by_cases c1 : r < 4503599627370496
  · rw [if_pos c1]; exact .inl ⟨_, _, rfl⟩
  · by_cases c2 : r < 9218868437227405312
    · rw [if_neg c1, if_pos c2]; exact .inl ⟨_, _, rfl⟩
    · rw [if_neg c1, if_neg c2, if_pos (by omega)]; exact .inr rfl

theorem bitsOf_word (neg : Bool) (r : Nat) (h : r ≤ 9218868437227405312) : bitsOf (FloatKind.f64.format.word neg r) = signedV neg r := by
  have ho : FloatKind.f64.format.order (FloatKind.f64.format.word neg r) (FloatKind.f64.format.word neg r) = some .eq := by
    unfold Ieee.Format.order
    rcases read_word neg r h with ⟨m, e, hr⟩ | hr <;> rw [hr] <;> simp [Ieee.Datum.order]
  unfold bitsOf
  rw [ho, if_neg (by simp)]
  exact word_wrap neg r (by omega)

theorem nearest_word (neg : Bool) (N : Nat) (exp : Int) : ∃ r, r ≤ 9218868437227405312 ∧ FloatKind.f64.format.nearest neg N exp = FloatKind.f64.format.word neg r := by
  unfold Ieee.Format.nearest
  by_cases h : N = 0
  · rw [if_pos h]; exact ⟨0, by decide, rfl⟩
  · rw [if_neg h]; exact ⟨_, by rw [f64_inf]; exact Nat.min_le_right _ _, rfl⟩

theorem bitsOf_nearest (neg : Bool) (N : Nat) (exp : Int) : bitsOf (FloatKind.f64.format.nearest neg N exp) = rndV neg N exp false := by
  obtain ⟨r, hr, e⟩ := nearest_word neg N exp
  rw [rnd_nearest, e, bitsOf_word neg r hr, word_wrap neg r (by omega)]

theorem inf_is (a : Int) (h1 : -9223372036854775808 ≤ a) (h2 : a ≤ 9223372036854775807) (h : pInf a = true) : signedV (pNeg a) 9218868437227405312 = a := by
  unfold pInf rg at h
  rw [decide_eq_true_eq] at h
  unfold signedV pNeg
  by_cases c : a < 0
  · simp [c]; omega
  · simp [c]; omega

theorem none_notinf (a : Int) (h : pNone a = true) : pInf a = false := by
  unfold pNone at h; unfold pInf
  rw [decide_eq_true_eq] at h; rw [decide_eq_false_iff_not]; omega

/-- a number with its sign -/
def sg (neg : Bool) (n : Int) : Int := if neg = true then -n else n

theorem signed_sg (neg : Bool) (m : Int) (k : Nat) (h : 0 ≤ m) : Ieee.signed neg m.toNat k = sg neg (m * 2 ^ k) := by
  have e : ((m.toNat <<< k : Nat) : Int) = m * 2 ^ k := by
    rw [shl_pow, Int.natCast_mul, Int.toNat_of_nonneg h]; simp
  unfold Ieee.signed sg
  rw [e]

theorem sum_fin (a b : Int) : (Ieee.Datum.number (pNeg a) (pWhole a).toNat (pExp a)).sum (Ieee.Datum.number (pNeg b) (pWhole b).toNat (pExp b)) =
    some (.number (if sg (pNeg a) (magL a b) + sg (pNeg b) (magR a b) = 0 then pNeg a && pNeg b else decide (sg (pNeg a) (magL a b) + sg (pNeg b) (magR a b) < 0)) (sg (pNeg a) (magL a b) + sg (pNeg b) (magR a b)).natAbs (lowE a b)) := by
  have ha := (pWhole_bounds a).1
  have hb := (pWhole_bounds b).1
  unfold Ieee.Datum.sum
  dsimp only
  rw [signed_sg _ _ _ ha, signed_sg _ _ _ hb]
  rfl

theorem mag_nonneg (a b : Int) : 0 ≤ magL a b ∧ 0 ≤ magR a b :=
  ⟨Int.mul_nonneg (pWhole_bounds a).1 (Int.le_of_lt (pow_pos' _)), Int.mul_nonneg (pWhole_bounds b).1 (Int.le_of_lt (pow_pos' _))⟩

theorem rnd_zero (neg : Bool) (exp : Int) (more : Bool) : rndV neg 0 exp more = signedV neg 0 := by unfold rndV; rw [if_pos rfl]

theorem fin_link (a b : Int) : rndV (if sg (pNeg a) (magL a b) + sg (pNeg b) (magR a b) = 0 then pNeg a && pNeg b else decide (sg (pNeg a) (magL a b) + sg (pNeg b) (magR a b) < 0)) ((sg (pNeg a) (magL a b) + sg (pNeg b) (magR a b)).natAbs : Int) (lowE a b) false = finAdd a b := by
  obtain ⟨h1, h2⟩ := mag_nonneg a b
  unfold finAdd
  generalize magL a b = X at *
  generalize magR a b = Y at *
  generalize lowE a b = low at *
  cases pNeg a <;> cases pNeg b <;> simp only [sg, Bool.false_eq_true, if_false, if_true, Bool.and_false, Bool.and_true, Bool.and_self, Bool.true_eq_false, reduceCtorEq]
  · have e : ((X + Y).natAbs : Int) = X + Y := by omega
    rw [e]
    by_cases hz : X + Y = 0
    · rw [if_pos hz]
    · rw [if_neg hz, show decide (X + Y < 0) = false from decide_eq_false (by omega)]
  · by_cases hz : X = Y
    · rw [if_pos hz, if_pos (by omega)]
      have e : ((X + -Y).natAbs : Int) = 0 := by omega
      rw [e, rnd_zero]; rfl
    · rw [if_neg hz, if_neg (by omega)]
      by_cases hlt : Y < X
      · rw [if_pos hlt, show decide (X + -Y < 0) = false from decide_eq_false (by omega), show ((X + -Y).natAbs : Int) = X - Y by omega]
      · rw [if_neg hlt, show decide (X + -Y < 0) = true from decide_eq_true (by omega), show ((X + -Y).natAbs : Int) = Y - X by omega]
  · by_cases hz : X = Y
    · rw [if_pos hz, if_pos (by omega)]
      have e : ((-X + Y).natAbs : Int) = 0 := by omega
      rw [e, rnd_zero]; rfl
    · rw [if_neg hz, if_neg (by omega)]
      by_cases hlt : Y < X
      · rw [if_pos hlt, show decide (-X + Y < 0) = true from decide_eq_true (by omega), show ((-X + Y).natAbs : Int) = X - Y by omega]
      · rw [if_neg hlt, show decide (-X + Y < 0) = false from decide_eq_false (by omega), show ((-X + Y).natAbs : Int) = Y - X by omega]
  · have e : ((-X + -Y).natAbs : Int) = X + Y := by omega
    rw [e]
    by_cases hz : -X + -Y = 0
    · rw [if_pos hz]
    · rw [if_neg hz, show decide (-X + -Y < 0) = true from decide_eq_true (by omega)]

theorem add_link (a b : Int) (ha1 : -9223372036854775808 ≤ a) (ha2 : a ≤ 9223372036854775807) (hb1 : -9223372036854775808 ≤ b) (hb2 : b ≤ 9223372036854775807) : floR .add a b = addV a b := by
  unfold floR floatBits
  dsimp only
  unfold Ieee.Format.add
  rw [read_pat a ha1 ha2, read_pat b hb1 hb2]
  by_cases na : pNone a = true
  · rw [if_pos na, show addV a b = noNum by (unfold addV; rw [if_pos (Or.inl na)])]; rfl
  · by_cases nb : pNone b = true
    · rw [if_neg na, if_pos nb, show addV a b = noNum by (unfold addV; rw [if_pos (Or.inr (Or.inl nb))])]
      by_cases ia : pInf a = true
      · rw [if_pos ia]; rfl
      · rw [if_neg ia]; rfl
    · rw [if_neg na, if_neg nb]
      by_cases ia : pInf a = true <;> by_cases ib : pInf b = true
      · rw [if_pos ia, if_pos ib]
        by_cases hn : pNeg a = pNeg b
        · rw [show addV a b = a by (unfold addV; rw [if_neg (by simp [na, nb, hn]), if_pos ia])]
          simp only [Ieee.Datum.sum, hn, if_true, Option.map_some]
          show bitsOf (FloatKind.f64.format.word (pNeg b) FloatKind.f64.format.infRung) = a
          rw [f64_inf, bitsOf_word _ _ (by decide), ← hn]
          exact inf_is a ha1 ha2 ia
        · rw [show addV a b = noNum by (unfold addV; rw [if_pos (Or.inr (Or.inr ⟨ia, ib, hn⟩))])]
          simp [Ieee.Datum.sum, hn]
      · rw [if_pos ia, if_neg ib, show addV a b = a by (unfold addV; rw [if_neg (by simp [na, nb, ib]), if_pos ia])]
        show bitsOf (FloatKind.f64.format.word (pNeg a) FloatKind.f64.format.infRung) = a
        rw [f64_inf, bitsOf_word _ _ (by decide)]
        exact inf_is a ha1 ha2 ia
      · rw [if_neg ia, if_pos ib, show addV a b = b by (unfold addV; rw [if_neg (by simp [na, nb, ia]), if_neg ia, if_pos ib])]
        show bitsOf (FloatKind.f64.format.word (pNeg b) FloatKind.f64.format.infRung) = b
        rw [f64_inf, bitsOf_word _ _ (by decide)]
        exact inf_is b hb1 hb2 ib
      · rw [if_neg ia, if_neg ib, show addV a b = finAdd a b by (unfold addV; rw [if_neg (by simp [na, nb, ia]), if_neg ia, if_neg ib]), sum_fin]
        show bitsOf (FloatKind.f64.format.nearest _ _ _) = _
        rw [bitsOf_nearest]
        exact fin_link a b

/-- a pattern as a place in the order -/
def ordV (a : Int) : Int := if pNeg a = true then -(rg a) else rg a

def lessV (a b : Int) : Bool := !pNone a && !pNone b && decide (ordV a < ordV b)

/-- greater rungs are greater numbers -/
theorem rung_lt (a b : Int) (h : rg a < rg b) (hf : rg b < 9218868437227405312) : magL a b < magR a b ∧ lowE a b = pExp a := by
  have ra := rg_bounds a
  have hw : pExp a ≤ pExp b ∧ (pExp a = pExp b → pWhole a < pWhole b) ∧ (pExp a < pExp b → 4503599627370496 ≤ pWhole b) ∧ pWhole a < 9007199254740992 ∧ 0 ≤ pWhole a := by
    unfold pExp pWhole
    by_cases c1 : rg a < 4503599627370496 <;> by_cases c2 : rg b < 4503599627370496
    · rw [if_pos c1, if_pos c1, if_pos c2, if_pos c2]; omega
    · rw [if_pos c1, if_pos c1, if_neg c2, if_neg c2, if_pos hf, if_pos hf]; omega
    · omega
    · rw [if_neg c1, if_neg c1, if_neg c2, if_neg c2, if_pos hf, if_pos hf, if_pos (by omega), if_pos (by omega)]; omega
  obtain ⟨h1, h2, h3, h4, h5⟩ := hw
  have hl : lowE a b = pExp a := by unfold lowE; omega
  refine ⟨?_, hl⟩
  unfold magL magR
  rw [hl]
  have e0 : (pExp a - pExp a).toNat = 0 := by omega
  rw [e0]
  by_cases he : pExp a = pExp b
  · have e1 : (pExp b - pExp a).toNat = 0 := by omega
    rw [e1]; have := h2 he; simp; exact this
  · have e1 : (pExp b - pExp a).toNat = (pExp b - pExp a).toNat - 1 + 1 := by omega
    rw [e1, pow_succ']
    have hp := pow_pos' ((pExp b - pExp a).toNat - 1)
    have hb := h3 (by omega)
    have hm := Int.mul_le_mul_of_nonneg_left (a := 1) (b := 2 ^ ((pExp b - pExp a).toNat - 1)) (c := pWhole b * 2) (by omega) (by omega)
    rw [Int.mul_one, Int.mul_assoc] at hm
    simp; omega

theorem mag_swap (a b : Int) : magL a b = magR b a ∧ magR a b = magL b a := by
  have : lowE a b = lowE b a := by unfold lowE; omega
  unfold magL magR; rw [this]; exact ⟨rfl, rfl⟩

theorem rung_eq (a b : Int) (h : rg a = rg b) : magL a b = magR a b := by
  have e1 : pWhole a = pWhole b := by unfold pWhole; rw [h]
  have e2 : pExp a = pExp b := by unfold pExp; rw [h]
  unfold magL magR; rw [e1, e2]

theorem rung_zero (a : Int) (b : Int) : (rg a = 0 → magL a b = 0) ∧ (0 < rg a → rg a < 9218868437227405312 → 0 < magL a b) := by
  constructor
  · intro h
    have : pWhole a = 0 := by unfold pWhole; rw [h]; rfl
    unfold magL; rw [this, Int.zero_mul]
  · intro h hf
    have : 0 < pWhole a := by
      unfold pWhole
      by_cases c : rg a < 4503599627370496
      · rw [if_pos c]; exact h
      · rw [if_neg c, if_pos hf]; omega
    exact Int.mul_pos this (pow_pos' _)

theorem cmp_lt (x y : Int) : (some (compare x y) == some Ordering.lt) = decide (x < y) := by
  rw [Bool.eq_iff_iff]; simp [Int.compare_eq_lt]

theorem fin_less (a b : Int) (ha : rg a < 9218868437227405312) (hb : rg b < 9218868437227405312) : sg (pNeg a) (magL a b) < sg (pNeg b) (magR a b) ↔ ordV a < ordV b := by
  obtain ⟨n1, n2⟩ := mag_nonneg a b
  have ra := (rg_bounds a).1
  have rb := (rg_bounds b).1
  have t : (rg a < rg b ∧ magL a b < magR a b) ∨ (rg a = rg b ∧ magL a b = magR a b) ∨ (rg b < rg a ∧ magR a b < magL a b) := by
    rcases Int.lt_trichotomy (rg a) (rg b) with h | h | h
    · exact .inl ⟨h, (rung_lt a b h hb).1⟩
    · exact .inr (.inl ⟨h, rung_eq a b h⟩)
    · have := (rung_lt b a h ha).1
      rw [← (mag_swap a b).2, ← (mag_swap a b).1] at this
      exact .inr (.inr ⟨h, this⟩)
  have za : (rg a = 0 ∧ magL a b = 0) ∨ (0 < rg a ∧ 0 < magL a b) := by
    by_cases h : rg a = 0
    · exact .inl ⟨h, (rung_zero a b).1 h⟩
    · exact .inr ⟨by omega, (rung_zero a b).2 (by omega) ha⟩
  have zb : (rg b = 0 ∧ magR a b = 0) ∨ (0 < rg b ∧ 0 < magR a b) := by
    rw [(mag_swap a b).2]
    by_cases h : rg b = 0
    · exact .inl ⟨h, (rung_zero b a).1 h⟩
    · exact .inr ⟨by omega, (rung_zero b a).2 (by omega) hb⟩
  unfold sg ordV
  cases pNeg a <;> cases pNeg b <;> simp only [Bool.false_eq_true, if_false, if_true] <;> omega

theorem less_link (a b : Int) (ha1 : -9223372036854775808 ≤ a) (ha2 : a ≤ 9223372036854775807) (hb1 : -9223372036854775808 ≤ b) (hb2 : b ≤ 9223372036854775807) : lessB a b = lessV a b := by
  unfold lessB lessV Ieee.Format.order
  rw [read_pat a ha1 ha2, read_pat b hb1 hb2]
  have ra := rg_bounds a
  have rb := rg_bounds b
  by_cases na : pNone a = true
  · simp [na, Ieee.Datum.order]
  · by_cases nb : pNone b = true
    · by_cases ia : pInf a = true <;> simp [na, nb, ia, Ieee.Datum.order]
    · have la : rg a ≤ 9218868437227405312 := by unfold pNone at na; rw [decide_eq_true_eq] at na; omega
      have lb : rg b ≤ 9218868437227405312 := by unfold pNone at nb; rw [decide_eq_true_eq] at nb; omega
      rw [if_neg na, if_neg nb]
      have na' := Bool.eq_false_iff.mpr na
      have nb' := Bool.eq_false_iff.mpr nb
      rw [na', nb']
      simp only [Bool.not_false, Bool.true_and]
      by_cases ia : pInf a = true <;> by_cases ib : pInf b = true
      · have ea : rg a = 9218868437227405312 := by unfold pInf at ia; rw [decide_eq_true_eq] at ia; exact ia
        have eb : rg b = 9218868437227405312 := by unfold pInf at ib; rw [decide_eq_true_eq] at ib; exact ib
        rw [if_pos ia, if_pos ib]
        unfold ordV
        rw [ea, eb]
        cases pNeg a <;> cases pNeg b <;> simp [Ieee.Datum.order] <;> decide
      · have ea : rg a = 9218868437227405312 := by unfold pInf at ia; rw [decide_eq_true_eq] at ia; exact ia
        have eb : rg b < 9218868437227405312 := by unfold pInf at ib; rw [decide_eq_true_eq] at ib; omega
        rw [if_pos ia, if_neg ib]
        unfold ordV
        rw [ea]
        cases pNeg a <;> cases pNeg b <;> simp [Ieee.Datum.order] <;> omega
      · have eb : rg b = 9218868437227405312 := by unfold pInf at ib; rw [decide_eq_true_eq] at ib; exact ib
        have ea : rg a < 9218868437227405312 := by unfold pInf at ia; rw [decide_eq_true_eq] at ia; omega
        rw [if_neg ia, if_pos ib]
        unfold ordV
        rw [eb]
        cases pNeg a <;> cases pNeg b <;> simp [Ieee.Datum.order] <;> omega
      · have eb : rg b < 9218868437227405312 := by unfold pInf at ib; rw [decide_eq_true_eq] at ib; omega
        have ea : rg a < 9218868437227405312 := by unfold pInf at ia; rw [decide_eq_true_eq] at ia; omega
        rw [if_neg ia, if_neg ib]
        show (some (compare (Ieee.signed (pNeg a) (pWhole a).toNat (pExp a - min (pExp a) (pExp b)).toNat) (Ieee.signed (pNeg b) (pWhole b).toNat (pExp b - min (pExp a) (pExp b)).toNat)) == some Ordering.lt) = _
        rw [signed_sg _ _ _ (pWhole_bounds a).1, signed_sg _ _ _ (pWhole_bounds b).1, cmp_lt]
        exact decide_eq_decide.2 (fin_less a b ea eb)

theorem ordV_neg (a : Int) (h1 : -9223372036854775808 ≤ a) (h : a < 0) : ordV a = -(a - -9223372036854775808) := by
  unfold ordV pNeg rg; simp [h]; omega

theorem ordV_pos (a : Int) (h2 : a ≤ 9223372036854775807) (h : ¬ a < 0) : ordV a = a := by
  unfold ordV pNeg rg; simp [h]; omega

/-- the pattern with the other sign -/
def flipV (b : Int) : Int := wrap64 (b + -9223372036854775808)

theorem flip_bounds (b : Int) : -9223372036854775808 ≤ flipV b ∧ flipV b ≤ 9223372036854775807 := by unfold flipV wrap64; omega

theorem flip_rg (b : Int) : rg (flipV b) = rg b := by unfold rg flipV wrap64; omega

theorem flip_neg (b : Int) (h1 : -9223372036854775808 ≤ b) (h2 : b ≤ 9223372036854775807) : pNeg (flipV b) = !pNeg b := by
  unfold pNeg flipV wrap64
  by_cases h : b < 0
  · rw [decide_eq_true h, decide_eq_false (by omega)]; rfl
  · rw [decide_eq_false h, decide_eq_true (by omega)]; rfl

theorem flip_read (b : Int) (h1 : -9223372036854775808 ≤ b) (h2 : b ≤ 9223372036854775807) : FloatKind.f64.format.read (pat (flipV b)) = (FloatKind.f64.format.read (pat b)).opposite := by
  obtain ⟨f1, f2⟩ := flip_bounds b
  rw [read_pat _ f1 f2, read_pat b h1 h2, flip_neg b h1 h2]
  have e1 : pNone (flipV b) = pNone b := by unfold pNone; rw [flip_rg]
  have e2 : pInf (flipV b) = pInf b := by unfold pInf; rw [flip_rg]
  have e3 : pWhole (flipV b) = pWhole b := by unfold pWhole; rw [flip_rg]
  have e4 : pExp (flipV b) = pExp b := by unfold pExp; rw [flip_rg]
  rw [e1, e2, e3, e4, flip_rg]
  by_cases n : pNone b = true
  · rw [if_pos n, if_pos n]; rfl
  · by_cases i : pInf b = true
    · rw [if_neg n, if_neg n, if_pos i, if_pos i]; rfl
    · rw [if_neg n, if_neg n, if_neg i, if_neg i]; rfl

theorem sub_link (a b : Int) (ha1 : -9223372036854775808 ≤ a) (ha2 : a ≤ 9223372036854775807) (hb1 : -9223372036854775808 ≤ b) (hb2 : b ≤ 9223372036854775807) : floR .sub a b = addV a (flipV b) := by
  obtain ⟨f1, f2⟩ := flip_bounds b
  rw [← add_link a (flipV b) ha1 ha2 f1 f2]
  unfold floR floatBits
  dsimp only
  unfold Ieee.Format.add Ieee.Format.sub
  rw [flip_read b hb1 hb2]

def subV (a b : Int) : Int := addV a (flipV b)

end Go.Proofs.Yteepkghjphmegab
