/- sets as words of 64 bits: plain mathematics -/
import Derived.Laws.Bits64b
import Derived.Lib.TrailingZeros
namespace Go.Proofs.YtnkobcldagajeabDoor
open Go
set_option linter.unusedVariables false
set_option linter.unusedSimpArgs false

/-- the number whose bits below k are f's -/
def pkN (f : Nat → Bool) : Nat → Nat
  | 0 => 0
  | k + 1 => pkN f k + if f k then 2 ^ k else 0
theorem pkN_lt (f : Nat → Bool) (k : Nat) : pkN f k < 2 ^ k := by
  induction k with
  | zero => simp [pkN]
  | succ k ih => unfold pkN; rw [Nat.pow_succ]; split <;> omega
theorem pkN_bit (f : Nat → Bool) (k j : Nat) : (pkN f k).testBit j = (decide (j < k) && f j) := by
  induction k with
  | zero => simp [pkN]
  | succ k ih =>
    have hl := pkN_lt f k
    unfold pkN
    by_cases hf : f k = true
    · rw [if_pos hf, Nat.add_comm, show 2 ^ k + pkN f k = 2 ^ k * 1 + pkN f k from by omega, Nat.testBit_two_pow_mul_add _ hl, ih]
      by_cases h1 : j < k
      · simp [h1]; omega
      · rw [if_neg h1]
        by_cases h2 : j = k
        · subst h2; simp [hf]
        · have : ¬ j < k + 1 := by omega
          obtain ⟨d, hd⟩ : ∃ d, j - k = d + 1 := ⟨j - k - 1, by omega⟩
          rw [hd, Nat.testBit_succ]
          simp [this]
    · rw [if_neg hf, Nat.add_zero, ih]
      by_cases h2 : j = k
      · subst h2; simp [hf]
      · have : (j < k) ↔ (j < k + 1) := by omega
        simp [this]
/-- the i-th word of a set -/
def pk (S : Nat → Bool) (i : Nat) : Nat := pkN (fun j => S (64 * i + j)) 64
theorem pk_lt (S : Nat → Bool) (i : Nat) : pk S i < 18446744073709551616 := pkN_lt _ 64
theorem pk_bit (S : Nat → Bool) (i j : Nat) : (pk S i).testBit j = (decide (j < 64) && S (64 * i + j)) := pkN_bit _ _ _
theorem pk_ext {S : Nat → Bool} {i x : Nat} (h : ∀ j, x.testBit j = (decide (j < 64) && S (64 * i + j))) : x = pk S i :=
  Nat.eq_of_testBit_eq fun j => by rw [h, pk_bit]
theorem pk_congr {S T : Nat → Bool} {i : Nat} (h : ∀ j, j < 64 → S (64 * i + j) = T (64 * i + j)) : pk S i = pk T i :=
  pk_ext fun j => by rw [pk_bit]; by_cases hj : j < 64 <;> simp [hj, h]
/-- the complement within 64 bits -/
theorem bit_full (j : Nat) : (18446744073709551615 : Nat).testBit j = decide (j < 64) := Nat.testBit_two_pow_sub_one 64 j
theorem bit_not64 (x j : Nat) (h : x < 18446744073709551616) : (18446744073709551615 - x).testBit j = (decide (j < 64) && !x.testBit j) := by
  have := Nat.testBit_two_pow_sub_succ (n := 64) (x := x) h j
  rw [show 2 ^ 64 - (x + 1) = 18446744073709551615 - x from by omega] at this
  exact this
theorem bits_andNot_u64_nat (a b : Nat) (ha : a < 18446744073709551616) (hb : b < 18446744073709551616) :
    bits .andNot .u64 (a : Int) (b : Int) = ((a &&& (18446744073709551615 - b) : Nat) : Int) := by
  have hx : a &&& (18446744073709551615 - b) < 2 ^ 64 := Nat.and_lt_two_pow _ (by omega)
  have h1 : (BitVec.ofInt 64 (a : Int)).toNat = a := by
    rw [BitVec.ofInt_natCast, BitVec.toNat_ofNat]; exact Nat.mod_eq_of_lt (by omega)
  have h2 : (BitVec.ofInt 64 (b : Int)).toNat = b := by
    rw [BitVec.ofInt_natCast, BitVec.toNat_ofNat]; exact Nat.mod_eq_of_lt (by omega)
  show IntKind.u64.wrap ((BitVec.ofInt 64 (a : Int) &&& ~~~ BitVec.ofInt 64 (b : Int)).toNat : Int) = _
  rw [BitVec.toNat_and, BitVec.toNat_not, h1, h2, IntKind.wrap_u64]
  rw [show 2 ^ 64 - 1 - b = 18446744073709551615 - b from by omega]
  omega

def upd (S : Nat → Bool) (i : Nat) (b : Bool) : Nat → Bool := fun j => if j = i then b else S j
theorem pk_upd_other (S : Nat → Bool) (i k : Nat) (b : Bool) (h : k ≠ i / 64) : pk (upd S i b) k = pk S k :=
  pk_congr fun j hj => by unfold upd; rw [if_neg (by omega)]
theorem pk_set (S : Nat → Bool) (i : Nat) : pk S (i / 64) ||| 2 ^ (i % 64) = pk (upd S i true) (i / 64) :=
  pk_ext fun j => by
    rw [Nat.testBit_or, pk_bit, Nat.testBit_two_pow]
    unfold upd
    by_cases h : 64 * (i / 64) + j = i
    · have hj : i % 64 = j := by omega
      have hj' : j < 64 := by omega
      simp [h, hj, hj']
    · rw [if_neg h]
      by_cases hj : i % 64 = j
      · omega
      · simp [hj]
theorem pk_clear (S : Nat → Bool) (i : Nat) : pk S (i / 64) &&& (18446744073709551615 - 2 ^ (i % 64)) = pk (upd S i false) (i / 64) :=
  pk_ext fun j => by
    have hp : 2 ^ (i % 64) < 18446744073709551616 := Nat.pow_lt_pow_right (a := 2) (by omega) (show i % 64 < 64 by omega)
    rw [Nat.testBit_and, pk_bit, bit_not64 _ _ hp, Nat.testBit_two_pow]
    unfold upd
    by_cases h : 64 * (i / 64) + j = i
    · have hj : i % 64 = j := by omega
      simp [h, hj]
    · rw [if_neg h]
      by_cases hj : i % 64 = j
      · omega
      · by_cases h6 : j < 64 <;> simp [hj, h6]
theorem pk_get (S : Nat → Bool) (i : Nat) : pk S (i / 64) &&& 2 ^ (i % 64) = if S i then 2 ^ (i % 64) else 0 := by
  apply Nat.eq_of_testBit_eq
  intro j
  rw [Nat.testBit_and, pk_bit, Nat.testBit_two_pow]
  by_cases hj : i % 64 = j
  · have e : 64 * (i / 64) + j = i := by omega
    have h6 : j < 64 := by omega
    cases hs : S i <;> simp [e, hj, h6, hs]
  · cases hs : S i <;> simp [hj, Nat.testBit_two_pow]

/-- the bits from lo on below hi -/
def msk (lo hi : Nat) : Nat := pkN (fun j => decide (lo ≤ j) && decide (j < hi)) 64
theorem msk_lt (lo hi : Nat) : msk lo hi < 18446744073709551616 := pkN_lt _ 64
theorem msk_bit (lo hi j : Nat) : (msk lo hi).testBit j = (decide (j < 64) && (decide (lo ≤ j) && decide (j < hi))) := pkN_bit _ _ _
/-- all bits, moved up -/
def up (lo : Nat) : Nat := if lo < 64 then 18446744073709551616 - 2 ^ lo else 0
theorem up_lt (lo : Nat) : up lo < 18446744073709551616 := by
  unfold up; have := Nat.two_pow_pos lo; split <;> omega
theorem up_bit (lo j : Nat) : (up lo).testBit j = (decide (j < 64) && decide (lo ≤ j)) := by
  unfold up
  by_cases h : lo < 64
  · rw [if_pos h]
    have hp : 2 ^ lo < 2 ^ 64 := Nat.pow_lt_pow_right (a := 2) (by omega) h
    have h1 := Nat.two_pow_pos lo
    have := bit_not64 (2 ^ lo - 1) j (by omega)
    rw [show 18446744073709551615 - (2 ^ lo - 1) = 18446744073709551616 - 2 ^ lo from by omega, Nat.testBit_two_pow_sub_one] at this
    rw [this]
    by_cases hj : j < lo
    · simp [hj]
    · have : lo ≤ j := by omega
      simp [this, hj]
  · rw [if_neg h]
    by_cases hj : j < 64
    · have : ¬ lo ≤ j := by omega
      simp [this]
    · simp [hj]
theorem up_msk (lo hi : Nat) : up lo &&& (18446744073709551615 - up hi) = msk lo hi :=
  Nat.eq_of_testBit_eq fun j => by
    rw [Nat.testBit_and, up_bit, bit_not64 _ _ (up_lt _), up_bit, msk_bit]
    by_cases h : j < 64
    · by_cases h1 : lo ≤ j <;> by_cases h2 : hi ≤ j <;> simp [h, h1, h2] <;> omega
    · simp [h]

def fill (S : Nat → Bool) (a b : Nat) (x : Bool) : Nat → Bool := fun j => if a ≤ j ∧ j < b then x else S j
theorem fill_nil (S : Nat → Bool) (a b : Nat) (x : Bool) (h : b ≤ a) : fill S a b x = S := by
  funext j; unfold fill; rw [if_neg (by omega)]
/-- the words behind one more piece: start a multiple of 64 -/
theorem pk_fill_other (S : Nat → Bool) (a t k s : Nat) (x : Bool) (h : k ≠ s) : pk (fill S a (min (64 * s + 64) t) x) k = pk (fill S a (min (64 * s) t) x) k := by
  refine pk_congr fun j hj => ?_
  unfold fill
  by_cases h1 : k < s
  · have e : (a ≤ 64 * k + j ∧ 64 * k + j < min (64 * s + 64) t) ↔ (a ≤ 64 * k + j ∧ 64 * k + j < min (64 * s) t) := by omega
    simp only [e]
  · rw [if_neg (by omega), if_neg (by omega)]
theorem pk_fill_set (S : Nat → Bool) (a t s : Nat) : pk (fill S a (min (64 * s) t) true) s ||| msk (a - 64 * s) (min (t - 64 * s) 64) = pk (fill S a (min (64 * s + 64) t) true) s :=
  pk_ext fun j => by
    rw [Nat.testBit_or, pk_bit, msk_bit]
    unfold fill
    by_cases h6 : j < 64
    · rw [if_neg (by omega)]
      by_cases h : a ≤ 64 * s + j ∧ 64 * s + j < min (64 * s + 64) t
      · rw [if_pos h]
        have h1 : a - 64 * s ≤ j := by omega
        have h2 : j < min (t - 64 * s) 64 := by omega
        simp [h6, h1, h2]
      · rw [if_neg h]
        have : ¬ (a - 64 * s ≤ j ∧ j < min (t - 64 * s) 64) := by omega
        have : (decide (a - 64 * s ≤ j) && decide (j < min (t - 64 * s) 64)) = false := by
          rw [← Bool.decide_and]; exact decide_eq_false this
        rw [this]; simp [h6]
    · simp [h6]
theorem pk_fill_clear (S : Nat → Bool) (a t s : Nat) : pk (fill S a (min (64 * s) t) false) s &&& (18446744073709551615 - msk (a - 64 * s) (min (t - 64 * s) 64)) = pk (fill S a (min (64 * s + 64) t) false) s :=
  pk_ext fun j => by
    rw [Nat.testBit_and, pk_bit, bit_not64 _ _ (msk_lt _ _), msk_bit]
    unfold fill
    by_cases h6 : j < 64
    · rw [if_neg (by omega)]
      by_cases h : a ≤ 64 * s + j ∧ 64 * s + j < min (64 * s + 64) t
      · rw [if_pos h]
        have h1 : a - 64 * s ≤ j := by omega
        have h2 : j < min (t - 64 * s) 64 := by omega
        simp [h6, h1, h2]
      · rw [if_neg h]
        have : ¬ (a - 64 * s ≤ j ∧ j < min (t - 64 * s) 64) := by omega
        have : (decide (a - 64 * s ≤ j) && decide (j < min (t - 64 * s) 64)) = false := by
          rw [← Bool.decide_and]; exact decide_eq_false this
        rw [this]; simp [h6]
    · simp [h6]
end Go.Proofs.YtnkobcldagajeabDoor
