import Derived.Laws.Bits64b
import Derived.Lib.TrailingZeros
import Derived.Test.YtjbbkeoolodeaabDoorMa
import Derived.Deep.OwnRows
import Derived.Shelf.Spec.TrailingZeros
import Derived.Laws.Bits128
import Derived.Deep.QuietTactic
import Derived.BigQuiet
import Derived.Lib.SliceRun
import Derived.Deep.AppendLies
import Derived.OwnWalk
namespace Go.Proofs.YtjbbkeoolodeaabDoor
open Go
set_option linter.unusedVariables false
set_option linter.unusedSimpArgs false

/-- the number whose bits below k are f's -/
def pkN (f : Nat → Bool) : Nat → Nat
  | 0 => 0
  | k + 1 => pkN f k + if f k then 2 ^ k else 0
theorem pkN_lt (f : Nat → Bool) (k : Nat) : pkN f k < 2 ^ k := by
  induction k with
  | zero => simp [pkN]
  | succ k ih => unfold pkN; rw [Nat.pow_succ]; split <;> omega
theorem pkN_bit (f : Nat → Bool) (k j : Nat) : (pkN f k).testBit j = (decide (j < k) && f j) := by
  induction k with
  | zero => simp [pkN]
  | succ k ih =>
    have hl := pkN_lt f k
    unfold pkN
    by_cases hf : f k = true
    · rw [if_pos hf, Nat.add_comm, show 2 ^ k + pkN f k = 2 ^ k * 1 + pkN f k from by omega, Nat.testBit_two_pow_mul_add _ hl, ih]
      by_cases h1 : j < k
      · simp [h1]; omega
      · rw [if_neg h1]
        by_cases h2 : j = k
        · subst h2; simp [hf]
        · have : ¬ j < k + 1 := by omega
          obtain ⟨d, hd⟩ : ∃ d, j - k = d + 1 := ⟨j - k - 1, by omega⟩
          rw [hd, Nat.testBit_succ]
          simp [this]
    · rw [if_neg hf, Nat.add_zero, ih]
      by_cases h2 : j = k
      · subst h2; simp [hf]
      · have : (j < k) ↔ (j < k + 1) := by omega
        simp [this]
/-- the i-th word of a set -/
def pk (S : Nat → Bool) (i : Nat) : Nat := pkN (fun j => S (64 * i + j)) 64
theorem pk_lt (S : Nat → Bool) (i : Nat) : pk S i < 18446744073709551616 := pkN_lt _ 64
theorem pk_bit (S : Nat → Bool) (i j : Nat) : (pk S i).testBit j = (decide (j < 64) && S (64 * i + j)) := pkN_bit _ _ _
theorem pk_ext {S : Nat → Bool} {i x : Nat} (h : ∀ j, x.testBit j = (decide (j < 64) && S (64 * i + j))) : x = pk S i :=
  Nat.eq_of_testBit_eq fun j => by rw [h, pk_bit]
theorem pk_congr {S T : Nat → Bool} {i : Nat} (h : ∀ j, j < 64 → S (64 * i + j) = T (64 * i + j)) : pk S i = pk T i :=
  pk_ext fun j => by rw [pk_bit]; by_cases hj : j < 64 <;> simp [hj, h]
/-- the complement within 64 bits -/
theorem bit_full (j : Nat) : (18446744073709551615 : Nat).testBit j = decide (j < 64) := Nat.testBit_two_pow_sub_one 64 j
theorem bit_not64 (x j : Nat) (h : x < 18446744073709551616) : (18446744073709551615 - x).testBit j = (decide (j < 64) && !x.testBit j) := by
  have := Nat.testBit_two_pow_sub_succ (n := 64) (x := x) h j
  rw [show 2 ^ 64 - (x + 1) = 18446744073709551615 - x from by omega] at this
  exact this
theorem bits_andNot_u64_nat (a b : Nat) (ha : a < 18446744073709551616) (hb : b < 18446744073709551616) :
    bits .andNot .u64 (a : Int) (b : Int) = ((a &&& (18446744073709551615 - b) : Nat) : Int) := by
  have hx : a &&& (18446744073709551615 - b) < 2 ^ 64 := Nat.and_lt_two_pow _ (by omega)
  have h1 : (BitVec.ofInt 64 (a : Int)).toNat = a := by
    rw [BitVec.ofInt_natCast, BitVec.toNat_ofNat]; exact Nat.mod_eq_of_lt (by omega)
  have h2 : (BitVec.ofInt 64 (b : Int)).toNat = b := by
    rw [BitVec.ofInt_natCast, BitVec.toNat_ofNat]; exact Nat.mod_eq_of_lt (by omega)
  show IntKind.u64.wrap ((BitVec.ofInt 64 (a : Int) &&& ~~~ BitVec.ofInt 64 (b : Int)).toNat : Int) = _
  rw [BitVec.toNat_and, BitVec.toNat_not, h1, h2, IntKind.wrap_u64]
  rw [show 2 ^ 64 - 1 - b = 18446744073709551615 - b from by omega]
  omega

def upd (S : Nat → Bool) (i : Nat) (b : Bool) : Nat → Bool := fun j => if j = i then b else S j
theorem pk_upd_other (S : Nat → Bool) (i k : Nat) (b : Bool) (h : k ≠ i / 64) : pk (upd S i b) k = pk S k :=
  pk_congr fun j hj => by unfold upd; rw [if_neg (by omega)]
theorem pk_set (S : Nat → Bool) (i : Nat) : pk S (i / 64) ||| 2 ^ (i % 64) = pk (upd S i true) (i / 64) :=
  pk_ext fun j => by
    rw [Nat.testBit_or, pk_bit, Nat.testBit_two_pow]
    unfold upd
    by_cases h : 64 * (i / 64) + j = i
    · have hj : i % 64 = j := by omega
      have hj' : j < 64 := by omega
      simp [h, hj, hj']
    · rw [if_neg h]
      by_cases hj : i % 64 = j
      · omega
      · simp [hj]
theorem pk_clear (S : Nat → Bool) (i : Nat) : pk S (i / 64) &&& (18446744073709551615 - 2 ^ (i % 64)) = pk (upd S i false) (i / 64) :=
  pk_ext fun j => by
    have hp : 2 ^ (i % 64) < 18446744073709551616 := Nat.pow_lt_pow_right (a := 2) (by omega) (show i % 64 < 64 by omega)
    rw [Nat.testBit_and, pk_bit, bit_not64 _ _ hp, Nat.testBit_two_pow]
    unfold upd
    by_cases h : 64 * (i / 64) + j = i
    · have hj : i % 64 = j := by omega
      simp [h, hj]
    · rw [if_neg h]
      by_cases hj : i % 64 = j
      · omega
      · by_cases h6 : j < 64 <;> simp [hj, h6]
theorem pk_get (S : Nat → Bool) (i : Nat) : pk S (i / 64) &&& 2 ^ (i % 64) = if S i then 2 ^ (i % 64) else 0 := by
  apply Nat.eq_of_testBit_eq
  intro j
  rw [Nat.testBit_and, pk_bit, Nat.testBit_two_pow]
  by_cases hj : i % 64 = j
  · have e : 64 * (i / 64) + j = i := by omega
    have h6 : j < 64 := by omega
    cases hs : S i <;> simp [e, hj, h6, hs]
  · cases hs : S i <;> simp [hj, Nat.testBit_two_pow]

/-- the bits from lo on below hi -/
def msk (lo hi : Nat) : Nat := pkN (fun j => decide (lo ≤ j) && decide (j < hi)) 64
theorem msk_lt (lo hi : Nat) : msk lo hi < 18446744073709551616 := pkN_lt _ 64
theorem msk_bit (lo hi j : Nat) : (msk lo hi).testBit j = (decide (j < 64) && (decide (lo ≤ j) && decide (j < hi))) := pkN_bit _ _ _
/-- all bits, moved up -/
def up (lo : Nat) : Nat := if lo < 64 then 18446744073709551616 - 2 ^ lo else 0
theorem up_lt (lo : Nat) : up lo < 18446744073709551616 := by
  unfold up; have := Nat.two_pow_pos lo; split <;> omega
theorem up_bit (lo j : Nat) : (up lo).testBit j = (decide (j < 64) && decide (lo ≤ j)) := by
  unfold up
  by_cases h : lo < 64
  · rw [if_pos h]
    have hp : 2 ^ lo < 2 ^ 64 := Nat.pow_lt_pow_right (a := 2) (by omega) h
    have h1 := Nat.two_pow_pos lo
    have := bit_not64 (2 ^ lo - 1) j (by omega)
    rw [show 18446744073709551615 - (2 ^ lo - 1) = 18446744073709551616 - 2 ^ lo from by omega, Nat.testBit_two_pow_sub_one] at this
    rw [this]
    by_cases hj : j < lo
    · simp [hj]
    · have : lo ≤ j := by omega
      simp [this, hj]
  · rw [if_neg h]
    by_cases hj : j < 64
    · have : ¬ lo ≤ j := by omega
      simp [this]
    · simp [hj]
theorem up_msk (lo hi : Nat) : up lo &&& (18446744073709551615 - up hi) = msk lo hi :=
  Nat.eq_of_testBit_eq fun j => by
    rw [Nat.testBit_and, up_bit, bit_not64 _ _ (up_lt _), up_bit, msk_bit]
    by_cases h : j < 64
    · by_cases h1 : lo ≤ j <;> by_cases h2 : hi ≤ j <;> simp [h, h1, h2] <;> omega
    · simp [h]

def fill (S : Nat → Bool) (a b : Nat) (x : Bool) : Nat → Bool := fun j => if a ≤ j ∧ j < b then x else S j
theorem fill_nil (S : Nat → Bool) (a b : Nat) (x : Bool) (h : b ≤ a) : fill S a b x = S := by
  funext j; unfold fill; rw [if_neg (by omega)]
/-- the words behind one more piece: start a multiple of 64 -/
theorem pk_fill_other (S : Nat → Bool) (a t k s : Nat) (x : Bool) (h : k ≠ s) : pk (fill S a (min (64 * s + 64) t) x) k = pk (fill S a (min (64 * s) t) x) k := by
  refine pk_congr fun j hj => ?_
  unfold fill
  by_cases h1 : k < s
  · have e : (a ≤ 64 * k + j ∧ 64 * k + j < min (64 * s + 64) t) ↔ (a ≤ 64 * k + j ∧ 64 * k + j < min (64 * s) t) := by omega
    simp only [e]
  · rw [if_neg (by omega), if_neg (by omega)]
theorem pk_fill_set (S : Nat → Bool) (a t s : Nat) : pk (fill S a (min (64 * s) t) true) s ||| msk (a - 64 * s) (min (t - 64 * s) 64) = pk (fill S a (min (64 * s + 64) t) true) s :=
  pk_ext fun j => by
    rw [Nat.testBit_or, pk_bit, msk_bit]
    unfold fill
    by_cases h6 : j < 64
    · rw [if_neg (by omega)]
      by_cases h : a ≤ 64 * s + j ∧ 64 * s + j < min (64 * s + 64) t
      · rw [if_pos h]
        have h1 : a - 64 * s ≤ j := by omega
        have h2 : j < min (t - 64 * s) 64 := by omega
        simp [h6, h1, h2]
      · rw [if_neg h]
        have : ¬ (a - 64 * s ≤ j ∧ j < min (t - 64 * s) 64) := by omega
        have : (decide (a - 64 * s ≤ j) && decide (j < min (t - 64 * s) 64)) = false := by
          rw [← Bool.decide_and]; exact decide_eq_false this
        rw [this]; simp [h6]
    · simp [h6]
theorem pk_fill_clear (S : Nat → Bool) (a t s : Nat) : pk (fill S a (min (64 * s) t) false) s &&& (18446744073709551615 - msk (a - 64 * s) (min (t - 64 * s) 64)) = pk (fill S a (min (64 * s + 64) t) false) s :=
  pk_ext fun j => by
    rw [Nat.testBit_and, pk_bit, bit_not64 _ _ (msk_lt _ _), msk_bit]
    unfold fill
    by_cases h6 : j < 64
    · rw [if_neg (by omega)]
      by_cases h : a ≤ 64 * s + j ∧ 64 * s + j < min (64 * s + 64) t
      · rw [if_pos h]
        have h1 : a - 64 * s ≤ j := by omega
        have h2 : j < min (t - 64 * s) 64 := by omega
        simp [h6, h1, h2]
      · rw [if_neg h]
        have : ¬ (a - 64 * s ≤ j ∧ j < min (t - 64 * s) 64) := by omega
        have : (decide (a - 64 * s ≤ j) && decide (j < min (t - 64 * s) 64)) = false := by
          rw [← Bool.decide_and]; exact decide_eq_false this
        rw [this]; simp [h6]
    · simp [h6]
end Go.Proofs.YtjbbkeoolodeaabDoor
namespace Go.Proofs.YtjbbkeoolodeaabDoor
open Go
set_option linter.unusedVariables false
set_option linter.unusedSimpArgs false

/-- how many are in below k -/
def cnt (S : Nat → Bool) : Nat → Nat
  | 0 => 0
  | k + 1 => cnt S k + if S k then 1 else 0
theorem cnt_le (S : Nat → Bool) (k : Nat) : cnt S k ≤ k := by
  induction k with
  | zero => simp [cnt]
  | succ k ih => unfold cnt; split <;> omega
theorem cnt_congr {S T : Nat → Bool} {k : Nat} (h : ∀ j, j < k → S j = T j) : cnt S k = cnt T k := by
  induction k with
  | zero => rfl
  | succ k ih => unfold cnt; rw [ih fun j hj => h j (by omega), h k (by omega)]
theorem cnt_add (S : Nat → Bool) (m k : Nat) : cnt S (m + k) = cnt S m + cnt (fun j => S (m + j)) k := by
  induction k with
  | zero => simp [cnt]
  | succ k ih =>
    show cnt S (m + k) + (if S (m + k) then 1 else 0) = cnt S m + (cnt (fun j => S (m + j)) k + if S (m + k) then 1 else 0)
    rw [ih]; omega
theorem cnt_mono (S : Nat → Bool) (a b : Nat) (h : a ≤ b) : cnt S a ≤ cnt S b := by
  obtain ⟨d, rfl⟩ : ∃ d, b = a + d := ⟨b - a, by omega⟩
  rw [cnt_add]; omega
theorem cnt_zero {S : Nat → Bool} {k : Nat} (h : ∀ j, j < k → S j = false) : cnt S k = 0 := by
  induction k with
  | zero => rfl
  | succ k ih => unfold cnt; rw [ih fun j hj => h j (by omega), h k (by omega)]; simp
theorem cnt_none {S : Nat → Bool} {k : Nat} (h : cnt S k = 0) : ∀ j, j < k → S j = false := by
  induction k with
  | zero => intro j hj; omega
  | succ k ih =>
    unfold cnt at h
    intro j hj
    by_cases e : j = k
    · subst e; by_cases hs : S j = true
      · rw [if_pos hs] at h; omega
      · simpa using hs
    · exact ih (by omega) j (by omega)
theorem cnt_full {S : Nat → Bool} {k : Nat} (h : ∀ j, j < k → S j = true) : cnt S k = k := by
  induction k with
  | zero => rfl
  | succ k ih => unfold cnt; rw [ih fun j hj => h j (by omega), h k (by omega)]; simp
/-- how many are in from a on below b -/
def cntR (S : Nat → Bool) (a b : Nat) : Nat := cnt (fun j => decide (a ≤ j) && S j) b
theorem cntR_le (S : Nat → Bool) (a b : Nat) : cntR S a b ≤ b := cnt_le _ _
theorem cntR_nil (S : Nat → Bool) (a b : Nat) (h : b ≤ a) : cntR S a b = 0 :=
  cnt_zero fun j hj => by have : ¬ a ≤ j := by omega
                          simp [this]
theorem cntR_zero (S : Nat → Bool) (b : Nat) : cntR S 0 b = cnt S b := cnt_congr fun j _ => by simp
theorem cntR_le' (S : Nat → Bool) (a b : Nat) : cntR S a b ≤ b - a := by
  by_cases h : b ≤ a
  · rw [cntR_nil _ _ _ h]; omega
  · obtain ⟨d, rfl⟩ : ∃ d, b = a + d := ⟨b - a, by omega⟩
    unfold cntR
    rw [cnt_add]
    have h0 : cnt (fun j => decide (a ≤ j) && S j) a = 0 := cnt_zero fun j hj => by
      have : ¬ a ≤ j := by omega
      simp [this]
    have := cnt_le (fun j => decide (a ≤ a + j) && S (a + j)) d
    omega
theorem cntR_split (S : Nat → Bool) (a b : Nat) (h : a ≤ b) : cnt S b = cnt S a + cntR S a b := by
  obtain ⟨d, rfl⟩ : ∃ d, b = a + d := ⟨b - a, by omega⟩
  unfold cntR
  rw [cnt_add, cnt_add]
  rw [cnt_zero (k := a) (S := fun j => decide (a ≤ j) && S j) fun j hj => by have : ¬ a ≤ j := by omega
                                                                             simp [this]]
  rw [Nat.zero_add]
  congr 1
  exact cnt_congr fun j _ => by simp
/-- the ones among 64 bits -/
def pop (x : Nat) : Nat := cnt x.testBit 64
theorem pop_le (x : Nat) : pop x ≤ 64 := cnt_le _ _
theorem cnt_cut (F : Nat → Bool) (t m : Nat) : cnt (fun j => F j && decide (j < t)) m = cnt F (min m t) := by
  induction m with
  | zero => simp [cnt]
  | succ m ih =>
    show cnt (fun j => F j && decide (j < t)) m + (if (F m && decide (m < t)) then 1 else 0) = _
    rw [ih]
    by_cases h : m < t
    · rw [show min (m + 1) t = m + 1 from by omega, show min m t = m from by omega]
      show _ = cnt F m + _
      simp [h]
    · rw [show min (m + 1) t = min m t from by omega]
      simp [h]
theorem piece_pop (S : Nat → Bool) (a t s : Nat) : cntR S a (min (64 * s) t) + pop (pk S s &&& msk (a - 64 * s) (min (t - 64 * s) 64)) = cntR S a (min (64 * s + 64) t) := by
  unfold cntR pop
  rw [← cnt_cut, ← cnt_cut, cnt_add]
  congr 1
  refine cnt_congr fun j hj => ?_
  rw [Nat.testBit_and, pk_bit, msk_bit]
  by_cases h1 : a ≤ 64 * s + j
  · have h1' : a - 64 * s ≤ j := by omega
    by_cases h2 : 64 * s + j < t
    · have h2' : j < min (t - 64 * s) 64 := by omega
      simp only [hj, h1, h1', h2, h2', decide_true, Bool.true_and, Bool.and_true]
    · have h2' : ¬ j < min (t - 64 * s) 64 := by omega
      simp only [hj, h1, h1', h2, h2', decide_true, decide_false, Bool.true_and, Bool.and_true, Bool.and_false]
  · have h1' : ¬ a - 64 * s ≤ j := by omega
    simp only [hj, h1, h1', decide_true, decide_false, Bool.true_and, Bool.false_and, Bool.and_false]

/-- the least from 'k' on below n that is P; n: there is none -/
def nx (P : Nat → Bool) (n k : Nat) : Nat := if k < n then (if P k then k else nx P n (k + 1)) else n
termination_by n - k
theorem nx_end (P : Nat → Bool) (n k : Nat) (h : n ≤ k) : nx P n k = n := by rw [nx, if_neg (by omega)]
theorem nx_le (P : Nat → Bool) (n k : Nat) : nx P n k ≤ n := by
  by_cases h : k < n
  · rw [nx, if_pos h]; split
    · omega
    · exact nx_le P n (k + 1)
  · rw [nx, if_neg h]; omega
termination_by n - k
theorem nx_ge (P : Nat → Bool) (n k : Nat) (h : k ≤ n) : k ≤ nx P n k := by
  by_cases h : k < n
  · rw [nx, if_pos h]; split
    · omega
    · have := nx_ge P n (k + 1) (by omega); omega
  · rw [nx, if_neg h]; omega
termination_by n - k
theorem nx_in (P : Nat → Bool) (n k : Nat) (h : nx P n k < n) : P (nx P n k) = true := by
  by_cases h' : k < n
  · rw [nx, if_pos h'] at h ⊢
    by_cases hp : P k = true
    · rw [if_pos hp]; exact hp
    · rw [if_neg hp] at h ⊢; exact nx_in P n (k + 1) h
  · rw [nx, if_neg h'] at h; omega
termination_by n - k
theorem nx_out (P : Nat → Bool) (n k : Nat) : ∀ j, k ≤ j → j < nx P n k → P j = false := by
  intro j h1 h2
  by_cases h' : k < n
  · rw [nx, if_pos h'] at h2
    by_cases hp : P k = true
    · rw [if_pos hp] at h2; omega
    · rw [if_neg hp] at h2
      by_cases e : j = k
      · subst e; simpa using hp
      · exact nx_out P n (k + 1) j (by omega) h2
  · rw [nx, if_neg h'] at h2; omega
termination_by n - k
theorem nx_eq (P : Nat → Bool) (n k r : Nat) (h1 : k ≤ r) (h2 : r ≤ n) (h3 : ∀ j, k ≤ j → j < r → P j = false) (h4 : r < n → P r = true) : nx P n k = r := by
  by_cases h' : k < n
  · rw [nx, if_pos h']
    by_cases hp : P k = true
    · rw [if_pos hp]
      by_cases e : k = r
      · exact e
      · rw [h3 k (by omega) (by omega)] at hp; cases hp
    · rw [if_neg hp]
      have : k ≠ r := fun e => by subst e; exact hp (h4 h')
      exact nx_eq P n (k + 1) r (by omega) h2 (fun j a b => h3 j (by omega) b) h4
  · rw [nx, if_neg h']; omega
termination_by n - k
theorem nx_congr {P Q : Nat → Bool} {n k : Nat} (h : ∀ j, k ≤ j → j < n → P j = Q j) : nx P n k = nx Q n k := by
  by_cases hk : k ≤ n
  · refine nx_eq P n k _ (nx_ge Q n k hk) (nx_le Q n k) (fun j a b => ?_) (fun a => ?_)
    · have := nx_le Q n k
      rw [h j a (by omega)]; exact nx_out Q n k j a b
    · rw [h _ (nx_ge Q n k hk) a]; exact nx_in Q n k a
  · rw [nx_end _ _ _ (by omega), nx_end _ _ _ (by omega)]
/-- as the program tells it -/
def nxr (P : Nat → Bool) (n k : Nat) : Int := if nx P n k < n then (nx P n k : Int) else -1
theorem nxr_ge (P : Nat → Bool) (n k : Nat) : -1 ≤ nxr P n k := by unfold nxr; split <;> omega
theorem nxr_lt (P : Nat → Bool) (n k : Nat) : nxr P n k < n := by unfold nxr; split <;> omega

/-! the least bit of a word -/
theorem ctz_spec (x : Nat) (h0 : x ≠ 0) (h : x < 18446744073709551616) : Lib.ctz 64 x < 64 ∧ x.testBit (Lib.ctz 64 x) = true ∧ ∀ j, j < Lib.ctz 64 x → x.testBit j = false := by
  obtain ⟨m, hm, hk⟩ := Lib.ctzFrom_spec 64 x (by omega) h
  have e : Lib.ctz 64 x = Lib.ctzFrom 64 x := by simp [Lib.ctz, h0]
  rw [e]
  refine ⟨hk, ?_, fun j hj => ?_⟩
  · rw [congrArg (fun y => Nat.testBit y (Lib.ctzFrom 64 x)) hm]
    show (2 ^ Lib.ctzFrom 64 x * (2 * m + 1)).testBit (Lib.ctzFrom 64 x) = true
    rw [Nat.testBit_two_pow_mul]
    simp
  · rw [congrArg (fun y => Nat.testBit y j) hm]
    show (2 ^ Lib.ctzFrom 64 x * (2 * m + 1)).testBit j = false
    rw [Nat.testBit_two_pow_mul]
    have : ¬ Lib.ctzFrom 64 x ≤ j := by omega
    simp [this]
theorem pk_none {T : Nat → Bool} {s : Nat} (h : pk T s = 0) : ∀ j, j < 64 → T (64 * s + j) = false := by
  intro j hj
  have := pk_bit T s j
  rw [h] at this
  simpa [hj] using this.symm
theorem pk_first {T : Nat → Bool} {s : Nat} (h : pk T s ≠ 0) : Lib.ctz 64 (pk T s) < 64 ∧ T (64 * s + Lib.ctz 64 (pk T s)) = true ∧ ∀ j, j < Lib.ctz 64 (pk T s) → T (64 * s + j) = false := by
  obtain ⟨h1, h2, h3⟩ := ctz_spec _ h (pk_lt T s)
  refine ⟨h1, ?_, fun j hj => ?_⟩
  · rw [pk_bit] at h2; simpa [h1] using h2
  · have := h3 j hj
    rw [pk_bit] at this
    have hj' : j < 64 := by omega
    simpa [hj'] using this
def from_ (T : Nat → Bool) (a : Nat) : Nat → Bool := fun j => decide (a ≤ j) && T j
theorem pk_head (T : Nat → Bool) (a : Nat) : pk T (a / 64) &&& (18446744073709551615 - (2 ^ (a % 64) - 1)) = pk (from_ T a) (a / 64) :=
  pk_ext fun j => by
    have hp : 2 ^ (a % 64) < 18446744073709551616 := Nat.pow_lt_pow_right (a := 2) (by omega) (show a % 64 < 64 by omega)
    rw [Nat.testBit_and, pk_bit, bit_not64 _ _ (by omega), Nat.testBit_two_pow_sub_one]
    unfold from_
    by_cases h6 : j < 64
    · by_cases h : j < a % 64
      · have : ¬ a ≤ 64 * (a / 64) + j := by omega
        simp [h6, h, this]
      · have : a ≤ 64 * (a / 64) + j := by omega
        simp [h6, h, this]
    · simp [h6]
theorem pk_tail (T : Nat → Bool) (a s : Nat) (h : a / 64 < s) : pk (from_ T a) s = pk T s :=
  pk_congr fun j hj => by
    unfold from_
    have : a ≤ 64 * s + j := by omega
    simp [this]
theorem pk_flip0 (S : Nat → Bool) (s : Nat) : pk S s ^^^ 0 = pk S s := Nat.xor_zero _
theorem pk_flip1 (S : Nat → Bool) (s : Nat) : pk S s ^^^ 18446744073709551615 = pk (fun j => !S j) s :=
  pk_ext fun j => by
    rw [Nat.testBit_xor, pk_bit, bit_full]
    by_cases h6 : j < 64 <;> simp [h6]
/-- what seek comes to -/
theorem seek_found {T : Nat → Bool} {n a s : Nat} (ha : a < n) (hs : a / 64 ≤ s) (hz : ∀ j, a ≤ j → j < 64 * s → T j = false) (h : pk (from_ T a) s ≠ 0) :
    min (s * 64 + Lib.ctz 64 (pk (from_ T a) s)) n = nx T n a := by
  obtain ⟨h1, h2, h3⟩ := pk_first h
  generalize Lib.ctz 64 (pk (from_ T a) s) = c at *
  unfold from_ at h2 h3
  simp only [Bool.and_eq_true, decide_eq_true_eq] at h2
  refine (nx_eq T n a _ (by omega) (by omega) (fun j h4 h5 => ?_) (fun h6 => ?_)).symm
  · by_cases hj : j < 64 * s
    · exact hz j h4 hj
    · have := h3 (j - 64 * s) (by omega)
      rw [show 64 * s + (j - 64 * s) = j from by omega] at this
      simpa [h4] using this
  · rw [show min (s * 64 + c) n = 64 * s + c from by omega]; exact h2.2
theorem seek_none {T : Nat → Bool} {n a s : Nat} (hz : ∀ j, a ≤ j → j < 64 * s → T j = false) (hs : n ≤ 64 * s) : nx T n a = n := by
  by_cases h : a ≤ n
  · exact nx_eq T n a n h (Nat.le_refl _) (fun j a b => hz j a (by omega)) (fun h => by omega)
  · exact nx_end _ _ _ (by omega)
theorem seek_step {T : Nat → Bool} {a s : Nat} (hz : ∀ j, a ≤ j → j < 64 * s → T j = false) (h : pk (from_ T a) s = 0) : ∀ j, a ≤ j → j < 64 * (s + 1) → T j = false := by
  intro j h1 h2
  by_cases hj : j < 64 * s
  · exact hz j h1 hj
  · have := pk_none h (j - 64 * s) (by omega)
    rw [show 64 * s + (j - 64 * s) = j from by omega] at this
    simpa [from_, h1] using this
end Go.Proofs.YtjbbkeoolodeaabDoor
namespace Go.Proofs.YtjbbkeoolodeaabDoor
open Go
set_option linter.unusedVariables false
set_option linter.unusedSimpArgs false

theorem and_bytes (h l c d : Nat) (hl : l < 256) (hd : d < 256) : (256 * h + l) &&& (256 * c + d) = 256 * (h &&& c) + (l &&& d) := by
  have hx : l &&& d < 2 ^ 8 := Nat.and_lt_two_pow _ hd
  apply Nat.eq_of_testBit_eq
  intro j
  have e1 := Nat.testBit_two_pow_mul_add h (i := 8) (b := l) hl j
  have e2 := Nat.testBit_two_pow_mul_add c (i := 8) (b := d) hd j
  have e3 := Nat.testBit_two_pow_mul_add (h &&& c) (i := 8) (b := l &&& d) hx j
  have p : (2 : Nat) ^ 8 = 256 := rfl
  rw [p] at e1 e2 e3
  rw [Nat.testBit_and, e1, e2, e3]
  split <;> rw [Nat.testBit_and]
def rep (c : Nat) : Nat → Nat
  | 0 => 0
  | k + 1 => 256 * rep c k + c
def f1 (k x : Nat) : Nat := (x / 2 &&& rep 85 k) + (x &&& rep 85 k)
def f2 (k x : Nat) : Nat := (x / 4 &&& rep 51 k) + (x &&& rep 51 k)
def f3 (k x : Nat) : Nat := (x / 16 + x) &&& rep 15 k
def g1 (l : Nat) : Nat := (l / 2 &&& 85) + (l &&& 85)
def g2 (l : Nat) : Nat := (l / 4 &&& 51) + (l &&& 51)
theorem low1 : ∀ b : Fin 2, ∀ l : Fin 256, (128 * b.val + l.val / 2) &&& 85 = (l.val / 2) &&& 85 := by decide +kernel
theorem low2 : ∀ b : Fin 4, ∀ l : Fin 256, (64 * b.val + l.val / 4) &&& 51 = (l.val / 4) &&& 51 := by decide +kernel
theorem g1_lt : ∀ l : Fin 256, g1 l.val < 256 := by decide +kernel
theorem g12_nib : ∀ l : Fin 256, g2 (g1 l.val) % 16 ≤ 4 ∧ g2 (g1 l.val) / 16 ≤ 4 := by decide +kernel
theorem p8_cnt : ∀ l : Fin 256, g2 (g1 l.val) / 16 + g2 (g1 l.val) % 16 = cnt l.val.testBit 8 := by decide +kernel
theorem f1_step (k h l : Nat) (hl : l < 256) : f1 (k + 1) (256 * h + l) = 256 * f1 k h + g1 l := by
  unfold f1 g1
  show ((256 * h + l) / 2 &&& (256 * rep 85 k + 85)) + ((256 * h + l) &&& (256 * rep 85 k + 85)) = _
  rw [show (256 * h + l) / 2 = 256 * (h / 2) + (128 * (h % 2) + l / 2) from by omega, and_bytes _ _ _ _ (by omega) (by omega), and_bytes _ _ _ _ hl (by omega)]
  have := low1 ⟨h % 2, by omega⟩ ⟨l, hl⟩
  simp only at this
  rw [this]; omega
theorem f2_step (k h l : Nat) (hl : l < 256) : f2 (k + 1) (256 * h + l) = 256 * f2 k h + g2 l := by
  unfold f2 g2
  show ((256 * h + l) / 4 &&& (256 * rep 51 k + 51)) + ((256 * h + l) &&& (256 * rep 51 k + 51)) = _
  rw [show (256 * h + l) / 4 = 256 * (h / 4) + (64 * (h % 4) + l / 4) from by omega, and_bytes _ _ _ _ (by omega) (by omega), and_bytes _ _ _ _ hl (by omega)]
  have := low2 ⟨h % 4, by omega⟩ ⟨l, hl⟩
  simp only at this
  rw [this]; omega
theorem f12_step (k h l : Nat) (hl : l < 256) : f2 (k + 1) (f1 (k + 1) (256 * h + l)) = 256 * f2 k (f1 k h) + g2 (g1 l) := by
  have := g1_lt ⟨l, hl⟩
  rw [f1_step k h l hl, f2_step _ _ _ this]
theorem f12_nib (k x : Nat) : f2 k (f1 k x) % 16 ≤ 4 := by
  cases k with
  | zero => simp [f2, f1, rep]
  | succ k =>
    rw [show x = 256 * (x / 256) + x % 256 from by omega, f12_step _ _ _ (by omega)]
    have := g12_nib ⟨x % 256, by omega⟩
    simp only at this
    omega
theorem f123_step (k h l : Nat) (hl : l < 256) : f3 (k + 1) (f2 (k + 1) (f1 (k + 1) (256 * h + l))) = 256 * f3 k (f2 k (f1 k h)) + cnt l.testBit 8 := by
  rw [f12_step _ _ _ hl]
  have h1 := f12_nib k h
  have h2 := g12_nib ⟨l, hl⟩
  have h3 := p8_cnt ⟨l, hl⟩
  simp only at h2 h3
  rw [← h3]
  generalize f2 k (f1 k h) = H at *
  generalize g2 (g1 l) = L at *
  unfold f3
  show ((256 * H + L) / 16 + (256 * H + L)) &&& (256 * rep 15 k + 15) = _
  rw [show (256 * H + L) / 16 + (256 * H + L) = 256 * (H / 16 + H) + (16 * (H % 16) + L / 16 + L) from by omega, and_bytes _ _ _ _ (by omega) (by omega)]
  rw [show (15 : Nat) = 2 ^ 4 - 1 from rfl, Nat.and_two_pow_sub_one_eq_mod]
  omega
theorem cnt_byte (x k : Nat) : cnt x.testBit (8 + k) = cnt (x % 256).testBit 8 + cnt (x / 256).testBit k := by
  rw [cnt_add]
  congr 1
  · refine cnt_congr fun j hj => ?_
    rw [show (256 : Nat) = 2 ^ 8 from rfl, Nat.testBit_mod_two_pow]; simp [hj]
  · refine cnt_congr fun j hj => ?_
    rw [show (256 : Nat) = 2 ^ 8 from rfl, Nat.testBit_div_two_pow]
    rw [Nat.add_comm]
theorem f123_byte (k x : Nat) : f3 (k + 1) (f2 (k + 1) (f1 (k + 1) x)) = 256 * f3 k (f2 k (f1 k (x / 256))) + cnt (x % 256).testBit 8 := by
  have := f123_step k (x / 256) (x % 256) (by omega)
  rw [show 256 * (x / 256) + x % 256 = x from by omega] at this
  exact this
theorem m55 : rep 85 8 = 6148914691236517205 := by simp [rep]
theorem m33 : rep 51 8 = 3689348814741910323 := by simp [rep]
theorem m0f : rep 15 8 = 1085102592571150095 := by simp [rep]
theorem gather (y h1 h2 h3 h4 h5 h6 h7 p0 p1 p2 p3 p4 p5 p6 : Nat) (b0 : p0 ≤ 8) (b1 : p1 ≤ 8) (b2 : p2 ≤ 8) (b3 : p3 ≤ 8) (b4 : p4 ≤ 8) (b5 : p5 ≤ 8) (b6 : p6 ≤ 8) (b7 : h7 ≤ 8)
    (e0 : y = 256 * h1 + p0) (e1 : h1 = 256 * h2 + p1) (e2 : h2 = 256 * h3 + p2) (e3 : h3 = 256 * h4 + p3) (e4 : h4 = 256 * h5 + p4) (e5 : h5 = 256 * h6 + p5) (e6 : h6 = 256 * h7 + p6) :
    y + y / 256 < 18446744073709551616 ∧ (y + y / 256) + (y + y / 256) / 65536 < 18446744073709551616 ∧ ((y + y / 256) + (y + y / 256) / 65536) + ((y + y / 256) + (y + y / 256) / 65536) / 4294967296 < 18446744073709551616 ∧
      (((y + y / 256) + (y + y / 256) / 65536) + ((y + y / 256) + (y + y / 256) / 65536) / 4294967296) % 128 = p0 + p1 + p2 + p3 + p4 + p5 + p6 + h7 := by
  have l6 : h6 ≤ 256 * 8 + 8 := by omega
  have l5 : h5 ≤ 256 * 2056 + 8 := by omega
  have l4 : h4 ≤ 256 * 526344 + 8 := by omega
  have l3 : h3 ≤ 256 * 134744072 + 8 := by omega
  have l2 : h2 ≤ 256 * 34494482440 + 8 := by omega
  have l1 : h1 ≤ 256 * 8830587504648 + 8 := by omega
  have a1 : y / 256 = h1 := by clear e1 e2 e3 e4 e5 e6; omega
  rw [a1]
  have a2 : (y + h1) / 65536 = h2 + h3 := by
    have : y + h1 = 65536 * (h2 + h3) + (256 * (p1 + p2) + (p0 + p1)) := by clear e3 e4 e5 e6; omega
    rw [this]; clear e0 e1 e2 e3 e4 e5 e6 this; omega
  rw [a2]
  have a3 : (y + h1 + (h2 + h3)) / 4294967296 = h4 + h5 + h6 + h7 := by
    have t0 : y = 4294967296 * h4 + (16777216 * p3 + 65536 * p2 + 256 * p1 + p0) := by clear e4 e5 e6; omega
    have t1 : h1 = 4294967296 * h5 + (16777216 * p4 + 65536 * p3 + 256 * p2 + p1) := by clear e0 e5 e6; omega
    have t2 : h2 = 4294967296 * h6 + (16777216 * p5 + 65536 * p4 + 256 * p3 + p2) := by clear e0 e1 e6; omega
    have t3 : h3 = 4294967296 * h7 + (16777216 * p6 + 65536 * p5 + 256 * p4 + p3) := by clear e0 e1 e2; omega
    clear e0 e1 e2 e3 e4 e5 e6 a1 a2
    omega
  rw [a3]
  clear a1 a2 a3
  refine ⟨by clear e1 e2 e3 e4 e5 e6; omega, by clear e1 e2 e3 e4 e5 e6; omega, by clear e1 e2 e3 e4 e5 e6; omega, ?_⟩
  have : y + h1 + (h2 + h3) + (h4 + h5 + h6 + h7) = 128 * (2 * (h1 + h2 + h3 + h4 + h5 + h6 + h7)) + (p0 + p1 + p2 + p3 + p4 + p5 + p6 + h7) := by omega
  rw [this]
  clear e0 e1 e2 e3 e4 e5 e6 this
  omega
/-- the library's way, in whole numbers -/
def ocA (x : Nat) : Nat := (x / 2 &&& 6148914691236517205) + (x &&& 6148914691236517205)
def ocB (x : Nat) : Nat := (x / 4 &&& 3689348814741910323) + (x &&& 3689348814741910323)
def ocC (x : Nat) : Nat := (x / 16 + x) &&& 1085102592571150095
theorem cnt_byte' (x m k : Nat) (h : m = 8 + k) : cnt x.testBit m = cnt (x % 256).testBit 8 + cnt (x / 256).testBit k := by rw [h, cnt_byte]
theorem oc_f (x : Nat) : ocC (ocB (ocA x)) = f3 8 (f2 8 (f1 8 x)) := by unfold ocA ocB ocC f1 f2 f3; rw [m55, m33, m0f]
def fx (k x : Nat) : Nat := f3 k (f2 k (f1 k x))
theorem fx_zero (x : Nat) : fx 0 x = 0 := by simp [fx, f1, f2, f3, rep]
theorem fx_byte (k x : Nat) : fx (k + 1) x = 256 * fx k (x / 256) + cnt (x % 256).testBit 8 := f123_byte k x
theorem oc_pop (x : Nat) : ∃ y, ocC (ocB (ocA x)) = y ∧ y + y / 256 < 18446744073709551616 ∧ (y + y / 256) + (y + y / 256) / 65536 < 18446744073709551616 ∧ ((y + y / 256) + (y + y / 256) / 65536) + ((y + y / 256) + (y + y / 256) / 65536) / 4294967296 < 18446744073709551616 ∧
      (((y + y / 256) + (y + y / 256) / 65536) + ((y + y / 256) + (y + y / 256) / 65536) / 4294967296) % 128 = pop x := by
  have e : ocC (ocB (ocA x)) = fx 8 x := by rw [oc_f, fx]
  have hp : pop x = cnt x.testBit 64 := rfl
  obtain ⟨x1, h1⟩ : ∃ x1, x / 256 = x1 := ⟨_, rfl⟩
  obtain ⟨x2, h2⟩ : ∃ x2, x1 / 256 = x2 := ⟨_, rfl⟩
  obtain ⟨x3, h3⟩ : ∃ x3, x2 / 256 = x3 := ⟨_, rfl⟩
  obtain ⟨x4, h4⟩ : ∃ x4, x3 / 256 = x4 := ⟨_, rfl⟩
  obtain ⟨x5, h5⟩ : ∃ x5, x4 / 256 = x5 := ⟨_, rfl⟩
  obtain ⟨x6, h6⟩ : ∃ x6, x5 / 256 = x6 := ⟨_, rfl⟩
  obtain ⟨x7, h7⟩ : ∃ x7, x6 / 256 = x7 := ⟨_, rfl⟩
  have k0 := cnt_byte' x 64 56 rfl
  have k1 := cnt_byte' x1 56 48 rfl
  have k2 := cnt_byte' x2 48 40 rfl
  have k3 := cnt_byte' x3 40 32 rfl
  have k4 := cnt_byte' x4 32 24 rfl
  have k5 := cnt_byte' x5 24 16 rfl
  have k6 := cnt_byte' x6 16 8 rfl
  have k7 := cnt_byte' x7 8 0 rfl
  have z7 : cnt (x7 / 256).testBit 0 = 0 := rfl
  have y0 := fx_byte 7 x
  have y1 := fx_byte 6 x1
  have y2 := fx_byte 5 x2
  have y3 := fx_byte 4 x3
  have y4 := fx_byte 3 x4
  have y5 := fx_byte 2 x5
  have y6 := fx_byte 1 x6
  have y7 := fx_byte 0 x7
  rw [fx_zero] at y7
  rw [h1] at k0 y0
  rw [h2] at k1 y1
  rw [h3] at k2 y2
  rw [h4] at k3 y3
  rw [h5] at k4 y4
  rw [h6] at k5 y5
  rw [h7] at k6 y6
  have q0 := cnt_le (x % 256).testBit 8
  have q1 := cnt_le (x1 % 256).testBit 8
  have q2 := cnt_le (x2 % 256).testBit 8
  have q3 := cnt_le (x3 % 256).testBit 8
  have q4 := cnt_le (x4 % 256).testBit 8
  have q5 := cnt_le (x5 % 256).testBit 8
  have q6 := cnt_le (x6 % 256).testBit 8
  have q7 := cnt_le (x7 % 256).testBit 8
  refine ⟨fx 8 x, e, ?_⟩
  clear e h1 h2 h3 h4 h5 h6 h7
  generalize cnt (x % 256).testBit 8 = p0 at *
  generalize cnt (x1 % 256).testBit 8 = p1 at *
  generalize cnt (x2 % 256).testBit 8 = p2 at *
  generalize cnt (x3 % 256).testBit 8 = p3 at *
  generalize cnt (x4 % 256).testBit 8 = p4 at *
  generalize cnt (x5 % 256).testBit 8 = p5 at *
  generalize cnt (x6 % 256).testBit 8 = p6 at *
  generalize cnt (x7 % 256).testBit 8 = p7 at *
  have hp' : pop x = p0 + p1 + p2 + p3 + p4 + p5 + p6 + p7 := by
    rw [hp, k0, k1, k2, k3, k4, k5, k6]
    clear y0 y1 y2 y3 y4 y5 y6 y7 q0 q1 q2 q3 q4 q5 q6 q7 hp k0 k1 k2 k3 k4 k5 k6
    omega
  clear hp k0 k1 k2 k3 k4 k5 k6 k7 z7
  simp only [Nat.reduceAdd] at y0 y1 y2 y3 y4 y5 y6 y7
  have y7' : fx 1 x7 = p7 := by rw [y7]; omega
  rw [y7'] at y6
  obtain ⟨r1, r2, r3, r4⟩ := gather _ _ _ _ _ _ _ _ p0 p1 p2 p3 p4 p5 p6 q0 q1 q2 q3 q4 q5 q6 q7 y0 y1 y2 y3 y4 y5 y6
  exact ⟨r1, r2, r3, by rw [r4, hp']⟩
end Go.Proofs.YtjbbkeoolodeaabDoor
namespace Go.Proofs.YtjbbkeoolodeaabDoor
open Go.RowKit
set_option linter.unusedVariables false
set_option linter.unusedSimpArgs false

/-- how many words -/
def nw (n : Nat) : Nat := (n + 63) / 64
/-- block b is a bitmap.Map of the length n with the numbers of S, all of it among the blocks from lo on below hi -/
def MapAt (w : World) (lo hi b n : Nat) (S : Nat → Bool) : Prop :=
  ∃ (bw : Nat) (cap : Nat), w.heap[b]? = some (.cells #[.int .i64 n, .slice (some ⟨bw, 0, none⟩) (nw n) cap] 119 (0, 0)) ∧ lo ≤ b ∧ b < hi ∧ hi ≤ w.heap.size ∧ 4 ≤ lo ∧ n ≤ 262144 ∧ nw n ≤ cap ∧ (∀ j, n ≤ j → S j = false) ∧ Tab w ∧
    lo ≤ bw ∧ bw < hi ∧ bw ≠ b ∧ Row w bw 103 (nw n) (fun i => .int .u64 (pk S i))
theorem MapAt.kept {w w' : World} {lo hi b n lo' hi' : Nat} {S : Nat → Bool} (h : MapAt w lo hi b n S) (g : Out lo' hi' w w') (hd : hi ≤ lo' ∨ hi' ≤ lo) (hp : 4 ≤ lo' ∨ hi' = 0) : MapAt w' lo hi b n S := by
  obtain ⟨bw, cap, hb, h1, h2, h3, h4, h5, h6, h7, h8, l1, l2, l3, hr⟩ := h
  have hk : bw < lo' ∨ hi' ≤ bw := by omega
  exact ⟨bw, cap, g.heap hb (by omega), h1, h2, Nat.le_trans h3 g.size, h4, h5, h6, h7, h8.kept g (by omega), l1, l2, l3, hr.kept g hk⟩
theorem MapAt.quiet {w w' : World} {lo hi b n : Nat} {S : Nat → Bool} (h : MapAt w lo hi b n S) (g : Out 0 0 w w') : MapAt w' lo hi b n S := h.kept g (.inr (Nat.zero_le _)) (.inr rfl)
theorem MapAt.drew {w : World} {lo hi b n : Nat} {S : Nat → Bool} (h : MapAt w lo hi b n S) : MapAt w.drew lo hi b n S := h.quiet (Out.refl _ _ _).drew
theorem MapAt.alloc {w : World} {lo hi b n : Nat} {S : Nat → Bool} (h : MapAt w lo hi b n S) (o : Obj) : MapAt (w.alloc o) lo hi b n S := h.quiet ((Out.refl _ _ _).alloc o)
theorem MapAt.tab {w : World} {lo hi b n : Nat} {S : Nat → Bool} (h : MapAt w lo hi b n S) : Tab w := by
  obtain ⟨bw, cap, hb, h1, h2, h3, h4, h5, h6, h7, h8, h9⟩ := h
  exact h8
theorem MapAt.bounds {w : World} {lo hi b n : Nat} {S : Nat → Bool} (h : MapAt w lo hi b n S) : lo ≤ b ∧ b < hi ∧ hi ≤ w.heap.size ∧ 4 ≤ lo ∧ n ≤ 262144 ∧ ∀ j, n ≤ j → S j = false := by
  obtain ⟨bw, cap, hb, h1, h2, h3, h4, h5, h6, h7, h8, h9⟩ := h
  exact ⟨h1, h2, h3, h4, h5, h7⟩
theorem MapAt.len {w : World} {lo hi b n : Nat} {S : Nat → Bool} (h : MapAt w lo hi b n S) : w.cell? ⟨b, 0, none⟩ = some (.int .i64 n) := by
  obtain ⟨bw, cap, hb, _⟩ := h
  simp [World.cell?, hb]
end Go.Proofs.YtjbbkeoolodeaabDoor
namespace Go.Proofs.YtjbbkeoolodeaabDoor
open Go.RowKit
set_option linter.unusedVariables false
set_option linter.unusedSimpArgs false

theorem len_any {w : World} {lo hi b n : Nat} {S : Nat → Bool} (h : MapAt w lo hi b n S) :
    Calls Tryd.prog 54 #[.pointer (some ⟨b, 0, none⟩)] w fun e w' => e = .returned (.int .i64 n) ∧ w' = w := by
  have c0 := h.len
  go_enter Tryd.func54, Tryd.ntmps54
  go_wp2
  go_ret
  exact ⟨rfl, rfl⟩
theorem has_any {w : World} {lo hi b n : Nat} {S : Nat → Bool} (h : MapAt w lo hi b n S) (i : Int) :
    Calls Tryd.prog 83 #[.pointer (some ⟨b, 0, none⟩), .int .i64 i] w fun e w' => e = .returned (.bool (inB n i)) ∧ w' = w := by
  have H := hid_mk (len_any h)
  by_cases h0 : 0 ≤ i
  · by_cases h1 : i < n
    · have e : inB n i = true := by simp [inB, h0, h1]
      rw [e]
      go_enter Tryd.func83, Tryd.ntmps83
      go_wp2_with (go_at_call 54; refine calls_same H.out ?_)
      all_goals go_ret
      all_goals exact ⟨rfl, rfl⟩
    · have e : inB n i = false := by simp [inB, h1]
      rw [e]
      go_enter Tryd.func83, Tryd.ntmps83
      go_wp2_with (go_at_call 54; refine calls_same H.out ?_)
      all_goals go_ret
      all_goals exact ⟨ret_bool (by simp; omega), rfl⟩
  · have e : inB n i = false := by simp [inB, h0]
    rw [e]
    go_enter Tryd.func83, Tryd.ntmps83
    go_wp2_with (go_at_call 54; refine calls_same H.out ?_)
    all_goals go_ret
    all_goals exact ⟨rfl, rfl⟩
/-- the bit of i in its word -/
def bitN (i : Nat) : Nat := 2 ^ (i % 64)
theorem bitN_lt (i : Nat) : bitN i < 18446744073709551616 := Nat.pow_lt_pow_right (a := 2) (by omega) (show i % 64 < 64 by omega)
theorem bitN_pos (i : Nat) : 0 < bitN i := Nat.two_pow_pos _
set_option maxHeartbeats 400000 in
theorem bit_any (i : Nat) (w : World) (hi : i < 1000000) :
    Calls Tryd.prog 73 #[.int .i64 i] w fun e w' => e = .returned (.int .u64 (bitN i)) ∧ w' = w := by
  have h0 : (0 : Int) ≤ (i : Int) := by omega
  have h1 : (i : Int) < 1000000 := by omega
  go_enter Tryd.func73, Tryd.ntmps73
  go_wp2
  go_ret
  refine ⟨ret_int ?_, rfl⟩
  rw [IntKind.wrap_u64]
  have h2 := bitN_lt i
  have h3 : ((bitN i : Nat) : Int) = 2 ^ (i % 64) := by unfold bitN; simp
  show (2 : Int) ^ (i % 64) % 18446744073709551616 = _
  rw [← h3]
  omega
set_option maxHeartbeats 1000000 in
theorem tz_core (x k idx : Nat) (w : World) (hx0 : ((x : Int) == 0) = false)
    (key : IntKind.u64.wrap (bits BinOp.and IntKind.u64 (x : Int) (IntKind.u64.wrap (-(x : Int))) * 285870213051353865) / 288230376151711744 = (idx : Int))
    (hi : idx < 64) (hk : k < 64) (hcell : w.cell? ⟨1, idx, none⟩ = some (.int .u8 k)) :
    Calls Tryd.prog 74 #[.int .u64 x] w fun e w' => e = .returned (.int .i64 k) ∧ w' = w := by
  go_enter Tryd.func74, Tryd.ntmps74
  go_wp2_with (simp only [key])
  go_ret
  exact ⟨rfl, rfl⟩
theorem tz_any (x : Nat) (hx : x < 18446744073709551616) (hx0 : x ≠ 0) {w : World} (hT : Tab w) :
    Calls Tryd.prog 74 #[.int .u64 x] w fun e w' => e = .returned (.int .i64 (Lib.ctz 64 x)) ∧ w' = w := by
  obtain ⟨hlow, hk⟩ := Lib.lowest_bit 64 x hx0 hx
  obtain ⟨hi, htab⟩ := Lib.deBruijn64_at _ hk
  have hcell := hT.2.2 _ hi
  rw [htab] at hcell
  exact tz_core x _ _ w (by simp; omega) (tz64_key x _ hx hx0 hlow) hi hk hcell
theorem and_c (a c : Nat) (ha : a < 18446744073709551616) (hc : c < 18446744073709551616) (x y : Int) (hx : x = (a : Int)) (hy : y = (c : Int)) : bits .and .u64 x y = ((a &&& c : Nat) : Int) := by
  rw [hx, hy]; exact bits_and_u64_nat a c ha hc
theorem ocA_eq (x : Nat) (hx : x < 18446744073709551616) : IntKind.u64.wrap (bits BinOp.and IntKind.u64 ((x : Int) / 2) 6148914691236517205 + bits BinOp.and IntKind.u64 (x : Int) 6148914691236517205) = ((ocA x : Nat) : Int) ∧ ocA x ≤ 12297829382473034410 := by
  have h1 := and_c (x / 2) 6148914691236517205 (by omega) (by omega) ((x : Int) / 2) 6148914691236517205 (by omega) rfl
  have h2 := and_c x 6148914691236517205 (by omega) (by omega) (x : Int) 6148914691236517205 rfl rfl
  have l1 : x / 2 &&& 6148914691236517205 ≤ 6148914691236517205 := Nat.and_le_right
  have l2 : x &&& 6148914691236517205 ≤ 6148914691236517205 := Nat.and_le_right
  rw [h1, h2, IntKind.wrap_u64]
  unfold ocA
  generalize x / 2 &&& 6148914691236517205 = p at *
  generalize x &&& 6148914691236517205 = q at *
  omega
theorem ocB_eq (x : Nat) (hx : x < 18446744073709551616) : IntKind.u64.wrap (bits BinOp.and IntKind.u64 ((x : Int) / 4) 3689348814741910323 + bits BinOp.and IntKind.u64 (x : Int) 3689348814741910323) = ((ocB x : Nat) : Int) ∧ ocB x ≤ 7378697629483820646 := by
  have h1 := and_c (x / 4) 3689348814741910323 (by omega) (by omega) ((x : Int) / 4) 3689348814741910323 (by omega) rfl
  have h2 := and_c x 3689348814741910323 (by omega) (by omega) (x : Int) 3689348814741910323 rfl rfl
  have l1 : x / 4 &&& 3689348814741910323 ≤ 3689348814741910323 := Nat.and_le_right
  have l2 : x &&& 3689348814741910323 ≤ 3689348814741910323 := Nat.and_le_right
  rw [h1, h2, IntKind.wrap_u64]
  unfold ocB
  generalize x / 4 &&& 3689348814741910323 = p at *
  generalize x &&& 3689348814741910323 = q at *
  omega
theorem ocC_eq (x : Nat) (hx : x ≤ 7378697629483820646) : bits BinOp.and IntKind.u64 (IntKind.u64.wrap ((x : Int) / 16 + (x : Int))) 1085102592571150095 = ((ocC x : Nat) : Int) := by
  refine and_c (x / 16 + x) 1085102592571150095 (by omega) (by omega) _ _ ?_ rfl
  rw [IntKind.wrap_u64]
  omega
theorem sum_a (y : Nat) (h : y + y / 256 < 18446744073709551616) : IntKind.u64.wrap ((y : Int) + (y : Int) / 256) = ((y + y / 256 : Nat) : Int) := by
  rw [IntKind.wrap_u64]; omega
theorem sum_b (y : Nat) (h : y + y / 65536 < 18446744073709551616) : IntKind.u64.wrap ((y : Int) + (y : Int) / 65536) = ((y + y / 65536 : Nat) : Int) := by
  rw [IntKind.wrap_u64]; omega
theorem sum_c (y : Nat) (h : y + y / 4294967296 < 18446744073709551616) : IntKind.u64.wrap ((y : Int) + (y : Int) / 4294967296) = ((y + y / 4294967296 : Nat) : Int) := by
  rw [IntKind.wrap_u64]; omega
theorem low127 (v : Nat) : bits BinOp.and IntKind.i64 (wrap64 (v : Int)) 127 = ((v % 128 : Nat) : Int) := by
  rw [i64_and127]
  unfold wrap64
  omega
set_option maxHeartbeats 1000000 in
theorem ones_any (x : Nat) (hx : x < 18446744073709551616) (w : World) :
    Calls Tryd.prog 102 #[.int .u64 x] w fun e w' => e = .returned (.int .i64 (pop x)) ∧ w' = w := by
  obtain ⟨y, hy, y1, y2, y3, y4⟩ := oc_pop x
  have HY := hid_mk hy
  have H1 := hid_mk y1
  have H2 := hid_mk y2
  have H3 := hid_mk y3
  have H4 := hid_mk y4
  clear hy y1 y2 y3 y4
  have hx' : (x : Int) < 18446744073709551616 := by omega
  have hx0 : (0 : Int) ≤ (x : Int) := by omega
  go_enter Tryd.func102, Tryd.ntmps102
  go_wp2
  go_ret
  refine ⟨ret_int ?_, rfl⟩
  obtain ⟨a1, a2⟩ := ocA_eq x hx
  rw [a1]
  obtain ⟨b1, b2⟩ := ocB_eq (ocA x) (by omega)
  rw [b1, ocC_eq _ b2, HY.out]
  rw [sum_a y H1.out, sum_b _ H2.out, sum_c _ H3.out, low127, H4.out]
end Go.Proofs.YtjbbkeoolodeaabDoor
namespace Go.Proofs.YtjbbkeoolodeaabDoor
open Go.RowKit
set_option linter.unusedVariables false
set_option linter.unusedSimpArgs false

theorem info_u64 : (Tryd.prog.info? 103).map (fun i => (i.zero, i.size, i.bytes)) = some (some (.int .u64 0), 1, 8) := by kernel_rfl
theorem pk_none_all (i : Nat) : pk (fun _ => false) i = 0 := (pk_ext fun j => by simp).symm
theorem bnew_no (n : Int) (w : World) (h : n < 0 ∨ 262144 < n) :
    Calls Tryd.prog 71 #[.int .i64 n] w fun e w' => e = .returned (.tuple #[.pointer none, .int .i64 1]) ∧ w' = w := by
  rcases h with h | h
  · go_enter Tryd.func71, Tryd.ntmps71
    go_wp2
    go_ret2
    exact ⟨rfl, rfl⟩
  · have h0 : 0 ≤ n := by omega
    go_enter Tryd.func71, Tryd.ntmps71
    go_wp2
    go_ret2
    exact ⟨rfl, rfl⟩
theorem mapAt_new (n : Nat) (w : World) (h : n ≤ 262144) (hT : Tab w) : MapAt ((w.alloc (.cells (madeCells #[.int .u64 0] (nw n)) 103)).alloc (.cells #[.int .i64 n, .slice (some ⟨w.heap.size, 0, none⟩) (nw n) (nw n)] 119))
    w.heap.size ((w.alloc (.cells (madeCells #[.int .u64 0] (nw n)) 103)).alloc (.cells #[.int .i64 n, .slice (some ⟨w.heap.size, 0, none⟩) (nw n) (nw n)] 119)).heap.size (w.heap.size + 1) n (fun _ => false) := by
  have g : Out 0 0 w ((w.alloc (.cells (madeCells #[.int .u64 0] (nw n)) 103)).alloc (.cells #[.int .i64 n, .slice (some ⟨w.heap.size, 0, none⟩) (nw n) (nw n)] 119)) := ((Out.refl _ _ _).alloc _).alloc _
  refine ⟨_, _, heap_alloc2_new _ _ _, by omega, by simp, Nat.le_refl _, hT.lt, h, Nat.le_refl _, fun _ _ => rfl, hT.kept g (.inr rfl), Nat.le_refl _, by simp; omega, by omega, ?_⟩
  obtain ⟨c, hb, hn, hc⟩ := (World.rowIs_made w (.int .u64 0) (nw n) 103).alloc (.cells #[.int .i64 n, .slice (some ⟨w.heap.size, 0, none⟩) (nw n) (nw n)] 119)
  exact ⟨c, hb, by omega, fun i hi => by rw [hc i hi]; show some (Value.int IntKind.u64 0) = some (Value.int IntKind.u64 ↑(pk (fun _ => false) i)); rw [pk_none_all]; rfl⟩
set_option maxHeartbeats 1000000 in
theorem bnew_any (n : Nat) (w : World) (h : n ≤ 262144) (hT : Tab w) :
    Calls Tryd.prog 71 #[.int .i64 n] w fun e w' => ∃ b, e = .returned (.tuple #[.pointer (some ⟨b, 0, none⟩), .int .i64 0]) ∧ MapAt w' w.heap.size w'.heap.size b n (fun _ => false) ∧ Out 0 0 w w' := by
  have h0 : (0 : Int) ≤ (n : Int) := by omega
  have h1 : (n : Int) ≤ 262144 := by omega
  have hn : nw n ≤ 4096 := by unfold nw; omega
  have hmk := run_make_row' (P := Tryd.prog) 117 103 (.int .u64 0) 8 Tryd.underlying117 info_u64 rfl .i64 .i64 (nw n) (by omega) (by omega)
  have he : ((n : Int) + 64 - 1) / 64 = ((nw n : Nat) : Int) := by unfold nw; omega
  have HT := hid_mk hT
  have HN := hid_mk hn
  clear hT hn
  go_enter Tryd.func71, Tryd.ntmps71
  go_wp2
  go_ret2
  exact ⟨_, rfl, mapAt_new n w h HT.out, ((Out.refl _ _ _).alloc _).alloc _⟩
theorem MapAt.words {w : World} {lo hi b n : Nat} {S : Nat → Bool} (h : MapAt w lo hi b n S) :
    ∃ bw cap, w.heap[b]? = some (.cells #[.int .i64 n, .slice (some ⟨bw, 0, none⟩) (nw n) cap] 119 (0, 0)) ∧ nw n ≤ cap ∧ lo ≤ bw ∧ bw < hi ∧ bw ≠ b ∧ Row w bw 103 (nw n) (fun i => .int .u64 (pk S i)) := by
  obtain ⟨bw, cap, hb, h1, h2, h3, h4, h5, h6, h7, h8, l1, l2, l3, hr⟩ := h
  exact ⟨bw, cap, hb, h6, l1, l2, l3, hr⟩
/-- a word is stored -/
theorem MapAt.store {w : World} {lo hi b n bw cap : Nat} {S S' : Nat → Bool} (h : MapAt w lo hi b n S) (hb : w.heap[b]? = some (.cells #[.int .i64 n, .slice (some ⟨bw, 0, none⟩) (nw n) cap] 119 (0, 0)))
    (hr : Row w bw 103 (nw n) (fun i => .int .u64 (pk S i))) (l1 : lo ≤ bw) (l2 : bw < hi) (l3 : bw ≠ b) (k : Nat) (v : Int) (hv : v = pk S' k) (ho : ∀ i, i < nw n → i ≠ k → pk S i = pk S' i) (hS : ∀ j, n ≤ j → S' j = false) :
    MapAt (w.setCell ⟨bw, k, none⟩ (.int .u64 v)) lo hi b n S' := by
  obtain ⟨bw', cap', hb', h1, h2, h3, h4, h5, h6, h7, h8, h9⟩ := h
  have e := hb.symm.trans hb'
  simp at e
  obtain ⟨e1, e2⟩ := e
  subst e1 e2
  have g : Out lo hi w (w.setCell ⟨bw, k, none⟩ (.int .u64 v)) := (Out.refl _ _ _).setCell (.inl ⟨l1, l2⟩) _
  refine ⟨_, _, ?_, h1, h2, Nat.le_trans h3 g.size, h4, h5, h6, hS, h8.kept g (.inl h4), l1, l2, l3, ?_⟩
  · rw [Below.heap_setCell _ _ _ _ (Ne.symm l3)]; exact hb
  · refine (hr.set k _).congr fun i hi => ?_
    by_cases e : i = k
    · subst e; simp only [if_true]; rw [hv]
    · simp only [if_neg e]; rw [ho i hi e]
theorem nw_lt {i n : Nat} (h : i < n) : i / 64 < nw n := by unfold nw; omega
set_option maxHeartbeats 1000000 in
theorem set_yes {w : World} {lo hi b n : Nat} {S : Nat → Bool} (h : MapAt w lo hi b n S) (i : Nat) (hi' : i < n) :
    Calls Tryd.prog 63 #[.pointer (some ⟨b, 0, none⟩), .int .i64 i] w fun e w' => e = .returned (.int .i64 0) ∧ MapAt w' lo hi b n (upd S i true) ∧ Out lo hi w w' := by
  have hb5 := h.bounds
  obtain ⟨bw, cap, hb, hcap, l1, l2, l3, hr⟩ := h.words
  have c1 : w.cell? ⟨b, 1, none⟩ = some (.slice (some ⟨bw, 0, none⟩) (nw n) cap) := by simp [World.cell?, hb]
  have c2 := hr.cell (nw_lt hi')
  have c3 := hr.frozen (i / 64)
  have HH := hid_mk (has_any h i)
  have e0 : inB n i = true := by simp [inB]; omega
  rw [e0] at HH
  have HB := hid_mk (fun w => bit_any i w (by omega))
  have HF := hid_mk (h.store (S' := upd S i true) hb hr l1 l2 l3 (i / 64) (bits .or .u64 (pk S (i / 64)) (bitN i)) (by rw [bits_or_u64_nat _ _ (pk_lt _ _) (bitN_lt _)]; unfold bitN; rw [pk_set]) (fun j _ hj => (pk_upd_other S i j true hj).symm) (fun j hj => by unfold upd; rw [if_neg (by omega)]; exact hb5.2.2.2.2.2 j hj))
  have i1 : (0 : Int) ≤ (i : Int) := by omega
  have i2 : (i : Int) < 262144 := by omega
  obtain ⟨k, hk⟩ : ∃ k, i / 64 = k := ⟨_, rfl⟩
  have i3 : (k : Int) < (nw n : Int) := by have := nw_lt hi'; omega
  have i4 : (0 : Int) ≤ (k : Int) := by omega
  have hk' : (i : Int) / 64 = (k : Int) := by omega
  have hk2 : (i : Int).tdiv 64 = (k : Int) := by rw [Int.tdiv_eq_ediv_of_nonneg i1]; exact hk'
  have hk3 : IntKind.i64.wrap (k : Int) = (k : Int) := by simp [IntKind.wrap, IntKind.signed, IntKind.bits]; omega
  rw [hk] at c2 c3 HF
  clear hk
  have HO := hid_mk l1
  have HP := hid_mk l2
  clear h hb hr l3 e0 hb5 hcap l1 l2
  go_enter Tryd.func63, Tryd.ntmps63
  go_wp2_with (first | (go_at_call 83; refine calls_same HH.out ?_) | (go_at_call 73; refine calls_same (HB.out _) ?_))
  go_region_with (go_at_call 73; refine calls_same (HB.out _) ?_)
  all_goals (try go_wp2)
  all_goals go_ret
  all_goals exact ⟨rfl, HF.out.drew, ((Out.refl _ _ _).setCell (.inl ⟨HO.out, HP.out⟩) _).drew⟩
def setE (n : Nat) (i : Int) : Int := if inB n i = true then 0 else 10
def setS (S : Nat → Bool) (n : Nat) (i : Int) (v : Bool) : Nat → Bool := if inB n i = true then upd S i.toNat v else S
theorem set_no {w : World} {lo hi b n : Nat} {S : Nat → Bool} (h : MapAt w lo hi b n S) (i : Int) (hi' : inB n i = false) :
    Calls Tryd.prog 63 #[.pointer (some ⟨b, 0, none⟩), .int .i64 i] w fun e w' => e = .returned (.int .i64 10) ∧ w' = w := by
  have HH := hid_mk (has_any h i)
  rw [hi'] at HH
  clear hi'
  go_enter Tryd.func63, Tryd.ntmps63
  go_wp2_with (go_at_call 83; refine calls_same HH.out ?_)
  go_ret
  exact ⟨rfl, rfl⟩
theorem inB_nat {n : Nat} {i : Int} (h : inB n i = true) : ∃ k : Nat, i = k ∧ k < n ∧ i.toNat = k := by
  simp [inB] at h
  exact ⟨i.toNat, by omega, by omega, rfl⟩
theorem set_any {w : World} {lo hi b n : Nat} {S : Nat → Bool} (h : MapAt w lo hi b n S) (i : Int) :
    Calls Tryd.prog 63 #[.pointer (some ⟨b, 0, none⟩), .int .i64 i] w fun e w' => e = .returned (.int .i64 (setE n i)) ∧ MapAt w' lo hi b n (setS S n i true) ∧ Out lo hi w w' := by
  by_cases hi' : inB n i = true
  · unfold setE setS
    rw [if_pos hi', if_pos hi']
    obtain ⟨k, rfl, hk, e⟩ := inB_nat hi'
    rw [e]
    exact set_yes h k hk
  · unfold setE setS
    rw [if_neg hi', if_neg hi']
    exact (set_no h i (by simpa using hi')).mono fun e w' ⟨h1, h2⟩ => ⟨h1, by rw [h2]; exact h, by rw [h2]; exact Out.refl _ _ _⟩
theorem out_drewN (w : World) (m : Nat) : Out 0 0 w (w.drewN m) := ⟨rfl, rfl, rfl, Nat.le_refl _, fun _ _ _ => rfl⟩
/-- is it in? -/
def getB (S : Nat → Bool) (n : Nat) (i : Int) : Bool := inB n i && S i.toNat
set_option maxHeartbeats 1000000 in
theorem get_yes {w : World} {lo hi b n : Nat} {S : Nat → Bool} (h : MapAt w lo hi b n S) (i : Nat) (hi' : i < n) :
    Calls Tryd.prog 67 #[.pointer (some ⟨b, 0, none⟩), .int .i64 i] w fun e w' => e = .returned (.bool (S i)) ∧ Out 0 0 w w' := by
  have hb5 := h.bounds
  obtain ⟨bw, cap, hb, hcap, l1, l2, l3, hr⟩ := h.words
  have c1 : w.cell? ⟨b, 1, none⟩ = some (.slice (some ⟨bw, 0, none⟩) (nw n) cap) := by simp [World.cell?, hb]
  have c2 := hr.cell (nw_lt hi')
  have HH := hid_mk (fun w (h : MapAt w lo hi b n S) => has_any h i)
  have e0 : inB n i = true := by simp [inB]; omega
  rw [e0] at HH
  have HM := hid_mk h
  have HB := hid_mk (fun w => bit_any i w (by omega))
  have HV : Hid ((bits .and .u64 (pk S (i / 64)) (bitN i) != 0) = S i) := by
    show (bits .and .u64 (pk S (i / 64)) (bitN i) != 0) = S i
    rw [bits_and_u64_nat _ _ (pk_lt _ _) (bitN_lt _)]
    have hp := bitN_pos i
    unfold bitN at *
    rw [pk_get]
    generalize 2 ^ (i % 64) = p at *
    cases hs : S i
    · simp
    · simp; omega
  have i1 : (0 : Int) ≤ (i : Int) := by omega
  have i2 : (i : Int) < 262144 := by omega
  obtain ⟨k, hk⟩ : ∃ k, i / 64 = k := ⟨_, rfl⟩
  have i3 : (k : Int) < (nw n : Int) := by have := nw_lt hi'; omega
  have i4 : (0 : Int) ≤ (k : Int) := by omega
  have hk' : (i : Int) / 64 = (k : Int) := by omega
  have hk2 : (i : Int).tdiv 64 = (k : Int) := by rw [Int.tdiv_eq_ediv_of_nonneg i1]; exact hk'
  have hk3 : IntKind.i64.wrap (k : Int) = (k : Int) := by simp [IntKind.wrap, IntKind.signed, IntKind.bits]; omega
  rw [hk] at c2 HV
  clear hk
  clear h hb hr l3 e0 hb5 hcap l1 l2
  go_enter Tryd.func67, Tryd.ntmps67
  go_wp2_with fail
  go_region_held3 (fun w' => w'.cell? ⟨b, 1, none⟩ = some (.slice (some ⟨bw, 0, none⟩) (nw n) cap) ∧ w'.cell? ⟨bw, k, none⟩ = some (.int .u64 (pk S k))) (go_keep)
    (first | (go_at_call 83; refine calls_same (HH.out _ (by exact HM.out.drew)) ?_) | (go_at_call 73; refine calls_same (HB.out _) ?_))
  all_goals (try go_wp2)
  all_goals go_ret
  all_goals exact ⟨ret_bool HV.out, (Out.refl _ _ _).drew⟩
theorem get_no {w : World} {lo hi b n : Nat} {S : Nat → Bool} (h : MapAt w lo hi b n S) (i : Int) (hi' : inB n i = false) :
    Calls Tryd.prog 67 #[.pointer (some ⟨b, 0, none⟩), .int .i64 i] w fun e w' => e = .returned (.bool false) ∧ Out 0 0 w w' := by
  have HH := hid_mk (fun w (h : MapAt w lo hi b n S) => has_any h i)
  rw [hi'] at HH
  have HM := hid_mk h
  clear h hi'
  go_enter Tryd.func67, Tryd.ntmps67
  go_wp2_with fail
  go_quiet ((go_at_call 83; exact Calls.quiet_of_same (HH.out _ (HM.out.quiet (out_drewN _ _)))))
  all_goals (try go_wp2)
  all_goals go_ret
  all_goals exact ⟨rfl, out_drewN _ _⟩
theorem get_any {w : World} {lo hi b n : Nat} {S : Nat → Bool} (h : MapAt w lo hi b n S) (i : Int) :
    Calls Tryd.prog 67 #[.pointer (some ⟨b, 0, none⟩), .int .i64 i] w fun e w' => e = .returned (.bool (getB S n i)) ∧ Out 0 0 w w' := by
  unfold getB
  by_cases hi' : inB n i = true
  · rw [hi']
    obtain ⟨k, rfl, hk, e⟩ := inB_nat hi'
    rw [e]
    exact get_yes h k hk
  · rw [Bool.eq_false_iff.mpr hi']
    exact get_no h i (by simpa using hi')
set_option maxHeartbeats 1000000 in
theorem clear_yes {w : World} {lo hi b n : Nat} {S : Nat → Bool} (h : MapAt w lo hi b n S) (i : Nat) (hi' : i < n) :
    Calls Tryd.prog 81 #[.pointer (some ⟨b, 0, none⟩), .int .i64 i] w fun e w' => e = .returned (.int .i64 0) ∧ MapAt w' lo hi b n (upd S i false) ∧ Out lo hi w w' := by
  have hb5 := h.bounds
  obtain ⟨bw, cap, hb, hcap, l1, l2, l3, hr⟩ := h.words
  have c1 : w.cell? ⟨b, 1, none⟩ = some (.slice (some ⟨bw, 0, none⟩) (nw n) cap) := by simp [World.cell?, hb]
  have c2 := hr.cell (nw_lt hi')
  have c3 := hr.frozen (i / 64)
  have HH := hid_mk (has_any h i)
  have e0 : inB n i = true := by simp [inB]; omega
  rw [e0] at HH
  have HB := hid_mk (fun w => bit_any i w (by omega))
  have HF := hid_mk (h.store (S' := upd S i false) hb hr l1 l2 l3 (i / 64) (bits .andNot .u64 (pk S (i / 64)) (bitN i)) (by rw [bits_andNot_u64_nat _ _ (pk_lt _ _) (bitN_lt _)]; unfold bitN; rw [pk_clear]) (fun j _ hj => (pk_upd_other S i j false hj).symm) (fun j hj => by unfold upd; rw [if_neg (by omega)]; exact hb5.2.2.2.2.2 j hj))
  have i1 : (0 : Int) ≤ (i : Int) := by omega
  have i2 : (i : Int) < 262144 := by omega
  obtain ⟨k, hk⟩ : ∃ k, i / 64 = k := ⟨_, rfl⟩
  have i3 : (k : Int) < (nw n : Int) := by have := nw_lt hi'; omega
  have i4 : (0 : Int) ≤ (k : Int) := by omega
  have hk' : (i : Int) / 64 = (k : Int) := by omega
  have hk2 : (i : Int).tdiv 64 = (k : Int) := by rw [Int.tdiv_eq_ediv_of_nonneg i1]; exact hk'
  have hk3 : IntKind.i64.wrap (k : Int) = (k : Int) := by simp [IntKind.wrap, IntKind.signed, IntKind.bits]; omega
  rw [hk] at c2 c3 HF
  clear hk
  have HO := hid_mk l1
  have HP := hid_mk l2
  clear h hb hr l3 e0 hb5 hcap l1 l2
  go_enter Tryd.func81, Tryd.ntmps81
  go_wp2_with (go_at_call 83; refine calls_same HH.out ?_)
  go_region_with (go_at_call 73; refine calls_same (HB.out _) ?_)
  all_goals (try go_wp2)
  all_goals go_ret
  all_goals exact ⟨rfl, HF.out.drew, ((Out.refl _ _ _).setCell (.inl ⟨HO.out, HP.out⟩) _).drew⟩
theorem clear_no {w : World} {lo hi b n : Nat} {S : Nat → Bool} (h : MapAt w lo hi b n S) (i : Int) (hi' : inB n i = false) :
    Calls Tryd.prog 81 #[.pointer (some ⟨b, 0, none⟩), .int .i64 i] w fun e w' => e = .returned (.int .i64 10) ∧ w' = w := by
  have HH := hid_mk (has_any h i)
  rw [hi'] at HH
  clear hi'
  go_enter Tryd.func81, Tryd.ntmps81
  go_wp2_with (go_at_call 83; refine calls_same HH.out ?_)
  go_ret
  exact ⟨rfl, rfl⟩
theorem clear_any {w : World} {lo hi b n : Nat} {S : Nat → Bool} (h : MapAt w lo hi b n S) (i : Int) :
    Calls Tryd.prog 81 #[.pointer (some ⟨b, 0, none⟩), .int .i64 i] w fun e w' => e = .returned (.int .i64 (setE n i)) ∧ MapAt w' lo hi b n (setS S n i false) ∧ Out lo hi w w' := by
  by_cases hi' : inB n i = true
  · unfold setE setS
    rw [if_pos hi', if_pos hi']
    obtain ⟨k, rfl, hk, e⟩ := inB_nat hi'
    rw [e]
    exact clear_yes h k hk
  · unfold setE setS
    rw [if_neg hi', if_neg hi']
    exact (clear_no h i (by simpa using hi')).mono fun e w' ⟨h1, h2⟩ => ⟨h1, by rw [h2]; exact h, by rw [h2]; exact Out.refl _ _ _⟩
end Go.Proofs.YtjbbkeoolodeaabDoor
namespace Go.Proofs.YtjbbkeoolodeaabDoor
open Go.RowKit
set_option linter.unusedVariables false
set_option linter.unusedSimpArgs false

theorem seek_out {w : World} {lo hi b n : Nat} {S : Nat → Bool} (h : MapAt w lo hi b n S) (a : Int) (x : Int) (ha : (n : Int) ≤ a) :
    Calls Tryd.prog 53 #[.pointer (some ⟨b, 0, none⟩), .int .i64 a, .int .u64 x] w fun e w' => e = .returned (.int .i64 n) ∧ w' = w := by
  have H := hid_mk (len_any h)
  clear h
  go_enter Tryd.func53, Tryd.ntmps53
  go_wp2_with (go_at_call 54; refine calls_same H.out ?_)
  go_ret
  exact ⟨rfl, rfl⟩
/-- what is looked for: those that are in, or (fl) those that are out -/
def flp (S : Nat → Bool) (fl : Bool) : Nat → Bool := fun j => S j != fl
def flv (fl : Bool) : Nat := if fl then 18446744073709551615 else 0
theorem flv_lt (fl : Bool) : flv fl < 18446744073709551616 := by cases fl <;> decide
theorem pk_flp (S : Nat → Bool) (fl : Bool) (s : Nat) : bits .xor .u64 (pk S s) (flv fl) = pk (flp S fl) s := by
  rw [bits_xor_u64_nat _ _ (pk_lt _ _) (flv_lt _)]
  cases fl
  · show ((pk S s ^^^ 0 : Nat) : Int) = _
    rw [pk_flip0]
    rw [pk_congr (S := flp S false) (T := S) fun j _ => by simp [flp]]
  · show ((pk S s ^^^ 18446744073709551615 : Nat) : Int) = _
    rw [pk_flip1]
    rw [pk_congr (S := flp S true) (T := fun j => !S j) fun j _ => by simp [flp]]
theorem head_eq (T : Nat → Bool) (a : Nat) : bits .andNot .u64 (pk T (a / 64)) (IntKind.u64.wrap ((bitN a : Int) - 1)) = pk (from_ T a) (a / 64) := by
  have h1 := bitN_lt a
  have h2 := bitN_pos a
  have e : IntKind.u64.wrap ((bitN a : Int) - 1) = ((bitN a - 1 : Nat) : Int) := by rw [IntKind.wrap_u64]; omega
  rw [e, bits_andNot_u64_nat _ _ (pk_lt _ _) (by omega)]
  unfold bitN
  rw [pk_head]
set_option maxRecDepth 100000 in
set_option maxHeartbeats 2000000 in
theorem seek_in {w : World} {lo hi b n : Nat} {S : Nat → Bool} (h : MapAt w lo hi b n S) (a x : Nat) (fl : Bool) (hx : x = flv fl) (ha : a < n) :
    Calls Tryd.prog 53 #[.pointer (some ⟨b, 0, none⟩), .int .i64 a, .int .u64 x] w fun e w' => e = .returned (.int .i64 (nx (flp S fl) n a)) ∧ Out 0 0 w w' := by
  have hb5 := h.bounds
  have c0 := h.len
  obtain ⟨bw, cap, hb, hcap, l1, l2, l3, hr⟩ := h.words
  have c1 : w.cell? ⟨b, 1, none⟩ = some (.slice (some ⟨bw, 0, none⟩) (nw n) cap) := by simp [World.cell?, hb]
  have c2 := hr.cell (nw_lt ha)
  have HR := hid_mk hr
  have HH := hid_mk (len_any h)
  have HT := hid_mk h.tab
  have HB := hid_mk (fun w => bit_any a w (by omega))
  have HX := hid_mk (pk_flp S fl)
  rw [← hx] at HX
  clear hx
  have HE := hid_mk (head_eq (flp S fl) a)
  have HN : Hid (nw n * 64 < n + 64 ∧ n ≤ nw n * 64 ∧ nw n ≤ 4096) := by show _ ∧ _ ∧ _; unfold nw; omega
  have HA := hid_mk (nw_lt ha)
  have i1 : (0 : Int) ≤ (a : Int) := by omega
  have i5 : (a : Int) < (n : Int) := by omega
  obtain ⟨k, hk⟩ : ∃ k, a / 64 = k := ⟨_, rfl⟩
  have i3 : (k : Int) < (nw n : Int) := by have := nw_lt ha; omega
  have i4 : (0 : Int) ≤ (k : Int) := by omega
  have i7 : (k : Int) < 4096 := by omega
  have hk' : (a : Int) / 64 = (k : Int) := by omega
  have HK := hid_mk hk
  rw [hk] at c2 HE HA
  clear hk h hb hr l3 hb5 hcap l1 l2
  go_enter Tryd.func53, Tryd.ntmps53
  go_wp2_with (go_at_call 54; refine calls_same HH.out ?_)
  go_region_held3 (fun w' => w'.cell? ⟨b, 1, none⟩ = some (.slice (some ⟨bw, 0, none⟩) (nw n) cap) ∧ w'.cell? ⟨bw, k, none⟩ = some (.int .u64 (pk S k))) (go_keep)
    (first | (go_at_call 73; refine calls_same (HB.out _) ?_))
  rw [HX.out, HE.out]
  clear hk' c2
  go_wp2_with fail
  go_loop [7, 8] (fun t r => ∃ s : Nat, k ≤ s ∧ s < nw n ∧ t = .int .i64 s ∧ r = .int .u64 (pk (from_ (flp S fl) a) s) ∧ ∀ j, a ≤ j → j < 64 * s → flp S fl j = false) (fun t _ => nw n - (intOf t).toNat)
  case atStart => exact ⟨k, Nat.le_refl _, HA.out, rfl, rfl, fun j h1 h2 => by have := HK.out; omega⟩
  case round =>
    obtain ⟨s, hs1, hs2, rfl, rfl, hz⟩ := hrel
    have HZ := hid_mk hz
    have j1 : (s : Int) < (nw n : Int) := by omega
    have j2 : (0 : Int) ≤ (s : Int) := by omega
    have j3 : (s : Int) < 4096 := by have := HN.out; omega
    obtain ⟨r, hr⟩ : ∃ r, pk (from_ (flp S fl) a) s = r := ⟨_, rfl⟩
    have hrl : r < 18446744073709551616 := by rw [← hr]; exact pk_lt _ _
    rw [hr]
    have HQ := hid_mk hr
    have HL := hid_mk hrl
    have HG := hid_mk ha
    have HS := hid_mk hs1
    have HS2 := hid_mk hs2
    clear hz hr hrl ha hs1 hs2
    by_cases h0 : r = 0
    · subst h0
      by_cases h1 : s + 1 = nw n
      · have h2 : (((s : Int) + 1) == (nw n : Int)) = true := by rw [beq_iff_eq]; omega
        have HR1 := hid_mk h1
        clear h1 i3 j1
        go_wp2
        go_ret
        refine ⟨ret_int ?_, (Out.refl _ _ _).drew⟩
        rw [seek_none (seek_step HZ.out HQ.out) (by have := HN.out; have := HR1.out; omega)]
      · have h2 : (((s : Int) + 1) == (nw n : Int)) = false := by rw [beq_eq_false_iff_ne]; omega
        have h3 : (s : Int) + 1 < (nw n : Int) := by omega
        have c3 : w.cell? ⟨bw, s + 1, none⟩ = some (.int .u64 (pk S (s + 1))) := HR.out.cell (by omega)
        have HR1 := hid_mk h1
        clear h1
        go_wp2
        rw [HX.out, ← pk_tail (flp S fl) a (s + 1) (by have := HS.out; have := HK.out; omega)]
        go_round
        case rel => exact ⟨s + 1, by have := HS.out; omega, by have := HS2.out; have := HR1.out; omega, by go_num, rfl, seek_step HZ.out HQ.out⟩
        case measure => simp [intOf]; omega
    · have h2 : ((r : Int) == 0) = false := by rw [beq_eq_false_iff_ne]; omega
      have HC := hid_mk (fun w (hT : Tab w) => tz_any r HL.out h0 hT)
      have HV := hid_mk (seek_found (n := n) HG.out (by rw [HK.out]; exact HS.out) HZ.out (by rw [HQ.out]; exact h0))
      rw [HQ.out] at HV
      have hc6 : (Lib.ctz 64 r : Int) < 64 := by have := (ctz_spec r h0 HL.out).1; omega
      generalize Lib.ctz 64 r = c at *
      have hw1 : IntKind.i64.wrap ((s : Int) * 64) = (s : Int) * 64 := by simp [IntKind.wrap, IntKind.signed, IntKind.bits]; omega
      have hw2 : IntKind.i64.wrap ((s : Int) * 64 + (c : Int)) = (s : Int) * 64 + (c : Int) := by simp [IntKind.wrap, IntKind.signed, IntKind.bits]; omega
      by_cases hm : (n : Int) < (s : Int) * 64 + (c : Int)
      · go_wp2_with fail
        go_region_held3 (fun w' => w'.cell? ⟨b, 0, none⟩ = some (.int .i64 n)) (go_keep)
          (first | (go_at_call 74; refine calls_same (HC.out _ (by exact HT.out)) ?_))
        all_goals (try go_wp2)
        all_goals go_ret
        all_goals exact ⟨ret_int (by have := HV.out; omega), (Out.refl _ _ _).drew.drew⟩
      · go_wp2_with fail
        go_region_held3 (fun w' => w'.cell? ⟨b, 0, none⟩ = some (.int .i64 n)) (go_keep)
          (first | (go_at_call 74; refine calls_same (HC.out _ (by exact HT.out)) ?_))
        all_goals (try go_wp2)
        all_goals go_ret
        all_goals exact ⟨ret_int (by have := HV.out; omega), (Out.refl _ _ _).drew.drew⟩
theorem flp_in (S : Nat → Bool) : flp S false = S := by funext j; simp [flp]
theorem seek_any {w : World} {lo hi b n : Nat} {S : Nat → Bool} (h : MapAt w lo hi b n S) (a : Int) (x : Nat) (fl : Bool) (hx : x = flv fl) (ha : 0 ≤ a) :
    Calls Tryd.prog 53 #[.pointer (some ⟨b, 0, none⟩), .int .i64 a, .int .u64 x] w fun e w' => e = .returned (.int .i64 (nx (flp S fl) n a.toNat)) ∧ Out 0 0 w w' := by
  by_cases hn : a < n
  · obtain ⟨k, rfl⟩ := Int.eq_ofNat_of_zero_le ha
    rw [Int.toNat_natCast]
    exact seek_in h k x fl hx (by omega)
  · rw [nx_end _ _ _ (by omega)]
    exact (seek_out h a x (by omega)).mono fun e w' ⟨h1, h2⟩ => ⟨h1, by rw [h2]; exact Out.refl _ _ _⟩

set_option maxHeartbeats 1000000 in
theorem next_any {w : World} {lo hi b n : Nat} {S : Nat → Bool} (h : MapAt w lo hi b n S) (a : Int) :
    Calls Tryd.prog 35 #[.pointer (some ⟨b, 0, none⟩), .int .i64 a] w fun e w' => e = .returned (.int .i64 (nxr S n a.toNat)) ∧ Out 0 0 w w' := by
  have hS := seek_any h (max a 0) 0 false rfl (by omega)
  rw [flp_in, show (max a 0).toNat = a.toNat from by omega] at hS
  have HL := hid_mk (fun w (h : MapAt w lo hi b n S) => len_any h)
  have HM := hid_mk h
  have hle := nx_le S n a.toNat
  unfold nxr
  generalize nx S n a.toNat = r at *
  by_cases h0 : 0 ≤ a
  · rw [show max a 0 = a from by omega] at hS
    have HS := hid_mk hS
    clear hS h
    by_cases hr : r < n
    · rw [if_pos hr]
      have e : ((r : Int) == (n : Int)) = false := by rw [beq_eq_false_iff_ne]; omega
      go_enter Tryd.func35, Tryd.ntmps35
      go_wp2_with fail
      refine HS.out.mono ?_
      rintro e' w1 ⟨rfl, hg⟩
      have HG := hid_mk hg
      clear hg
      go_wp2_with (go_at_call 54; refine calls_same (HL.out _ (HM.out.quiet HG.out)) ?_)
      go_ret
      exact ⟨rfl, HG.out⟩
    · rw [if_neg hr]
      obtain rfl : r = n := by omega
      have e : ((r : Int) == (r : Int)) = true := by simp
      go_enter Tryd.func35, Tryd.ntmps35
      go_wp2_with fail
      refine HS.out.mono ?_
      rintro e' w1 ⟨rfl, hg⟩
      have HG := hid_mk hg
      clear hg
      go_wp2_with (go_at_call 54; refine calls_same (HL.out _ (HM.out.quiet HG.out)) ?_)
      go_ret
      exact ⟨rfl, HG.out⟩
  · rw [show max a 0 = 0 from by omega] at hS
    have HS := hid_mk hS
    clear hS h
    by_cases hr : r < n
    · rw [if_pos hr]
      have e : ((r : Int) == (n : Int)) = false := by rw [beq_eq_false_iff_ne]; omega
      go_enter Tryd.func35, Tryd.ntmps35
      go_wp2_with fail
      refine HS.out.mono ?_
      rintro e' w1 ⟨rfl, hg⟩
      have HG := hid_mk hg
      clear hg
      go_wp2_with (go_at_call 54; refine calls_same (HL.out _ (HM.out.quiet HG.out)) ?_)
      go_ret
      exact ⟨rfl, HG.out⟩
    · rw [if_neg hr]
      obtain rfl : r = n := by omega
      have e : ((r : Int) == (r : Int)) = true := by simp
      go_enter Tryd.func35, Tryd.ntmps35
      go_wp2_with fail
      refine HS.out.mono ?_
      rintro e' w1 ⟨rfl, hg⟩
      have HG := hid_mk hg
      clear hg
      go_wp2_with (go_at_call 54; refine calls_same (HL.out _ (HM.out.quiet HG.out)) ?_)
      go_ret
      exact ⟨rfl, HG.out⟩
end Go.Proofs.YtjbbkeoolodeaabDoor
namespace Go.Proofs.YtjbbkeoolodeaabDoor
open Go.RowKit
set_option linter.unusedVariables false
set_option linter.unusedSimpArgs false

/-- block g is one cell that holds v -/
def Box (w : World) (g : Nat) (T : TypeId) (v : Value) : Prop := w.heap[g]? = some (.cells #[v] T (0, 0))
theorem Box.cell {w : World} {g : Nat} {T : TypeId} {v : Value} (h : Box w g T v) : w.cell? ⟨g, 0, none⟩ = some v := by
  unfold Box at h; simp [World.cell?, h]
theorem Box.frozen {w : World} {g : Nat} {T : TypeId} {v : Value} (h : Box w g T v) : w.frozen? ⟨g, 0, none⟩ = false := by
  unfold Box at h; simp [World.frozen?, h]
theorem Box.lt {w : World} {g : Nat} {T : TypeId} {v : Value} (h : Box w g T v) : g < w.heap.size := heap_lt h
theorem Box.kept {w w' : World} {g lo hi : Nat} {T : TypeId} {v : Value} (h : Box w g T v) (o : Out lo hi w w') (h2 : g < lo ∨ hi ≤ g) : Box w' g T v := o.heap h h2
theorem Box.new (w : World) (T : TypeId) (v : Value) : Box (w.alloc (.cells #[v] T)) w.heap.size T v := heap_alloc_new _ _
theorem Box.alloc {w : World} {g : Nat} {T : TypeId} {v : Value} (h : Box w g T v) (o : Obj) : Box (w.alloc o) g T v := by
  unfold Box; rw [heap_alloc_old _ _ h.lt]; exact h
theorem Box.set {w : World} {g : Nat} {T : TypeId} {v : Value} (h : Box w g T v) (u : Value) : Box (w.setCell ⟨g, 0, none⟩ u) g T u := by
  unfold Box at *
  simp only [World.setCell, Array.getElem?_modify, if_true, h]
  rfl
theorem Box.setOther {w : World} {g : Nat} {T : TypeId} {v : Value} (h : Box w g T v) {p : Addr} (hp : g ≠ p.block) (u : Value) : Box (w.setCell p u) g T v := by
  unfold Box at *
  rw [Below.heap_setCell _ _ _ _ hp]; exact h

set_option maxHeartbeats 1000000 in
theorem countPiece {w : World} {lo hi b n g c : Nat} {S : Nat → Bool} {v : Int} (h : MapAt w lo hi b n S) (hb' : Box w g 78 (.pointer (some ⟨b, 0, none⟩))) (hc : Box w c 3 (.int .i64 v)) (v1 : 0 ≤ v) (v2 : v < 1000000) (hn : 0 < n) (s : Nat) (hs : s < nw n) (x : Nat) (hx : x < 18446744073709551616) :
    Calls Tryd.prog 101 #[.int .i64 s, .int .u64 x, .pointer (some ⟨c, 0, none⟩), .pointer (some ⟨g, 0, none⟩)] w fun e w' => e = .returned (.tuple #[]) ∧ Box w' c 3 (.int .i64 (v + pop (pk S s &&& x))) ∧ Out c (c + 1) w w' := by
  obtain ⟨bw, cap, hb, hcap, l1, l2, l3, hr⟩ := h.words
  have c0 := hb'.cell
  have c1 : w.cell? ⟨b, 1, none⟩ = some (.slice (some ⟨bw, 0, none⟩) (nw n) cap) := by simp [World.cell?, hb]
  have c2 := hr.cell hs
  have c3 := hc.cell
  have c4 := hc.frozen
  have HA := hid_mk (bits_and_u64_nat (pk S s) x (pk_lt _ _) hx)
  have hl : pk S s &&& x < 18446744073709551616 := Nat.lt_of_le_of_lt Nat.and_le_left (pk_lt _ _)
  have HC := hid_mk (fun w => ones_any (pk S s &&& x) hl w)
  have hp : ((pop (pk S s &&& x) : Nat) : Int) ≤ 64 := by have := pop_le (pk S s &&& x); omega
  have HB := hid_mk hc
  have hw : IntKind.i64.wrap (v + ↑(pop (pk S s &&& x))) = v + ↑(pop (pk S s &&& x)) := by simp [IntKind.wrap, IntKind.signed, IntKind.bits]; omega
  have i1 : (0 : Int) ≤ (s : Int) := by omega
  have i2 : (s : Int) < (nw n : Int) := by omega
  clear h hb' hb hr l3 hcap l1 l2 hc hl
  go_enter Tryd.func101, Tryd.ntmps101
  go_wp2_with fail
  go_region_with (go_at_call 102; rw [HA.out]; refine calls_same (HC.out _) ?_)
  all_goals (try go_wp2)
  all_goals exact bodyPost_end (results_none Tryd.results101 _ _ _) rfl ⟨rfl, HB.out.set _, ((Out.refl _ _ _).setCell (.inl ⟨Nat.le_refl _, Nat.lt_succ_self _⟩) _).drew⟩
theorem shl_up (L : Nat) (h : L ≤ 64) : IntKind.u64.wrap (18446744073709551615 * 2 ^ min L 64) = ((up L : Nat) : Int) := by
  rw [show min L 64 = L from by omega, IntKind.wrap_u64]
  unfold up
  have hp := Nat.two_pow_pos L
  have e : ((2 ^ L : Nat) : Int) = (2 : Int) ^ L := by simp
  by_cases h6 : L < 64
  · rw [if_pos h6, ← e]
    have hl : 2 ^ L < 2 ^ 64 := Nat.pow_lt_pow_right (a := 2) (by omega) h6
    rw [show (2 : Nat) ^ 64 = 18446744073709551616 from rfl] at hl
    generalize 2 ^ L = p at *
    omega
  · rw [if_neg h6]
    obtain rfl : L = 64 := by omega
    rfl
theorem shl_64 : IntKind.u64.wrap 340282366920938463444927863358058659840 = ((up 64 : Nat) : Int) := by rw [IntKind.wrap_u64]; rfl
theorem shl_0 : IntKind.u64.wrap 18446744073709551615 = ((up 0 : Nat) : Int) := by rw [IntKind.wrap_u64]; rfl
theorem andNot_up (L H : Nat) : bits .andNot .u64 ((up L : Nat) : Int) ((up H : Nat) : Int) = ((msk L H : Nat) : Int) := by
  rw [bits_andNot_u64_nat _ _ (up_lt _) (up_lt _), up_msk]
theorem shl_up2 (L : Nat) (h : L ≤ 64) : IntKind.u64.wrap (18446744073709551615 * 2 ^ L) = ((up L : Nat) : Int) := by
  have := shl_up L h
  rwa [show min L 64 = L from by omega] at this
end Go.Proofs.YtjbbkeoolodeaabDoor
namespace Go.Proofs.YtjbbkeoolodeaabDoor
open Go.RowKit
set_option linter.unusedVariables false
set_option linter.unusedSimpArgs false

set_option maxRecDepth 100000 in
set_option maxHeartbeats 2000000 in
theorem piecesCount (c g : Nat) (I : Nat → World → Prop) (hd : ∀ s w, I s w → I s w.drew) (a : Nat) (t : Int) (ha : a < 9223372036854775808) (ht : t ≤ 262144)
    (hI : ∀ s w, a / 64 ≤ s → 64 * (s : Int) < t → I s w → Calls Tryd.prog 101 #[.int .i64 s, .int .u64 (msk (a - 64 * s) (min (t.toNat - 64 * s) 64)), .pointer (some ⟨c, 0, none⟩), .pointer (some ⟨g, 0, none⟩)] w fun e w' => e = .returned (.tuple #[]) ∧ I (s + 1) w')
    {w : World} (h : I (a / 64) w) :
    Calls Tryd.prog 100 #[.int .i64 a, .int .i64 t, .func (.func 101) #[] #[.pointer (some ⟨c, 0, none⟩), .pointer (some ⟨g, 0, none⟩)]] w fun e w' => e = .returned (.tuple #[]) ∧ ∃ s, a / 64 ≤ s ∧ t ≤ 64 * (s : Int) ∧ (s = a / 64 ∨ 64 * (s : Int) < t + 64) ∧ I s w' := by
  have HD := hid_mk hd
  have HI := hid_mk hI
  have HW := hid_mk h
  have HA := hid_mk ha
  have HT := hid_mk ht
  have i1 : (0 : Int) ≤ (a : Int) := by omega
  clear hd hI h ha ht
  go_enter Tryd.func100, Tryd.ntmps100
  go_wp2_with fail
  go_loopw [6] (fun x wr => ∃ s : Nat, a / 64 ≤ s ∧ x = .int .i64 (64 * (s : Int)) ∧ (s = a / 64 ∨ 64 * (s : Int) < t + 64) ∧ I s wr) (fun x _ => (t - intOf x).toNat)
  case atStart => exact ⟨a / 64, Nat.le_refl _, by congr 1; unfold wrap64; have := HA.out; omega, .inl rfl, HW.out⟩
  case round =>
    obtain ⟨s, hs1, rfl, hs2, hw⟩ := hrel
    by_cases hlt : 64 * (s : Int) < t
    · have j1 : (0 : Int) ≤ (s : Int) := by omega
      have j2 : (s : Int) < 4096 := by have := HT.out; omega
      have HS := hid_mk hs1
      have HV := hid_mk hw
      obtain ⟨q, hq1, hq2⟩ : ∃ q : Int, t ≤ 64 * q ∧ q ≤ 4096 := ⟨4096, by have := HT.out; omega, by omega⟩
      have HX : Hid (a / 64 = s ∨ a / 64 < s) := by show _ ∨ _; omega
      clear hs1 hs2 hw
      have hws : IntKind.i64.wrap (s : Int) = (s : Int) := by simp [IntKind.wrap, IntKind.signed, IntKind.bits]; omega
      have HC := hid_mk (HI.out s wr.drew HS.out hlt (HD.out _ _ HV.out))
      have HR : Hid ((64 * (s : Int) < t ∧ 64 * ((s + 1 : Nat) : Int) < t + 64)) := by show _ ∧ _; omega
      rcases HX.out with hA | hA
      · obtain ⟨L, hL⟩ : ∃ L : Nat, (a : Int) - 64 * (s : Int) = (L : Int) := ⟨a - 64 * s, by omega⟩
        have a1 : (0 : Int) ≤ (a : Int) - 64 * (s : Int) := by omega
        have a2 : (a : Int) - 64 * (s : Int) < 64 := by omega
        have hL' : a - 64 * s = L := by omega
        have HL : Hid (L ≤ 64) := by show _ ≤ _; omega
        rw [hL'] at HC
        have HE := hid_mk hL
        clear hA hL hL'
        by_cases hB : 64 < t - 64 * (s : Int)
        · have hH' : min (t.toNat - 64 * s) 64 = 64 := by omega
          rw [hH'] at HC
          clear hH'
          go_wp2_with fail
          rw [HE.out] at *
          go_region_with (go_at_call 101; (first | rw [shl_up L HL.out, shl_64, andNot_up] | rw [shl_up2 L HL.out, shl_64, andNot_up]); refine HC.out.mono ?_; rintro e w2 ⟨rfl, hw2⟩)
          all_goals (try go_wp2)
          all_goals go_roundw
          case rel => exact ⟨s + 1, by have := HS.out; omega, by go_num, .inr HR.out.2, by assumption⟩
          case measure => simp [intOf]; omega
        · obtain ⟨H, hH⟩ : ∃ H : Nat, t - 64 * (s : Int) = (H : Int) := ⟨(t - 64 * s).toNat, by omega⟩
          have b2 : (0 : Int) ≤ t - 64 * (s : Int) := by omega
          have hH' : min (t.toNat - 64 * s) 64 = H := by omega
          have HH : Hid (H ≤ 64) := by show _ ≤ _; omega
          rw [hH'] at HC
          have HF := hid_mk hH
          clear hH hH'
          go_wp2_with fail
          rw [HE.out, HF.out] at *
          go_region_with (go_at_call 101; (first | rw [shl_up L HL.out, shl_up H HH.out, andNot_up] | rw [shl_up L HL.out, shl_up2 H HH.out, andNot_up] | rw [shl_up2 L HL.out, shl_up H HH.out, andNot_up] | rw [shl_up2 L HL.out, shl_up2 H HH.out, andNot_up]); refine HC.out.mono ?_; rintro e w2 ⟨rfl, hw2⟩)
          all_goals (try go_wp2)
          all_goals go_roundw
          case rel => exact ⟨s + 1, by have := HS.out; omega, by go_num, .inr HR.out.2, by assumption⟩
          case measure => simp [intOf]; omega
      · have a1 : (a : Int) - 64 * (s : Int) < 0 := by omega
        have hL' : a - 64 * s = 0 := by omega
        rw [hL'] at HC
        clear hA hL'
        by_cases hB : 64 < t - 64 * (s : Int)
        · have hH' : min (t.toNat - 64 * s) 64 = 64 := by omega
          rw [hH'] at HC
          clear hH'
          go_wp2_with fail
          go_region_with (go_at_call 101; (first | rw [shl_0, shl_64, andNot_up]); refine HC.out.mono ?_; rintro e w2 ⟨rfl, hw2⟩)
          all_goals (try go_wp2)
          all_goals go_roundw
          case rel => exact ⟨s + 1, by have := HS.out; omega, by go_num, .inr HR.out.2, by assumption⟩
          case measure => simp [intOf]; omega
        · obtain ⟨H, hH⟩ : ∃ H : Nat, t - 64 * (s : Int) = (H : Int) := ⟨(t - 64 * s).toNat, by omega⟩
          have b2 : (0 : Int) ≤ t - 64 * (s : Int) := by omega
          have hH' : min (t.toNat - 64 * s) 64 = H := by omega
          have HH : Hid (H ≤ 64) := by show _ ≤ _; omega
          rw [hH'] at HC
          have HF := hid_mk hH
          clear hH hH'
          go_wp2_with fail
          rw [HF.out] at *
          go_region_with (go_at_call 101; (first | rw [shl_0, shl_up H HH.out, andNot_up] | rw [shl_0, shl_up2 H HH.out, andNot_up]); refine HC.out.mono ?_; rintro e w2 ⟨rfl, hw2⟩)
          all_goals (try go_wp2)
          all_goals go_roundw
          case rel => exact ⟨s + 1, by have := HS.out; omega, by go_num, .inr HR.out.2, by assumption⟩
          case measure => simp [intOf]; omega
    · go_wp2
      exact bodyPost_end (results_none Tryd.results100 _ _ _) rfl ⟨rfl, s, hs1, by omega, hs2, hw⟩
end Go.Proofs.YtjbbkeoolodeaabDoor
namespace Go.Proofs.YtjbbkeoolodeaabDoor
open Go.RowKit
set_option linter.unusedVariables false
set_option linter.unusedSimpArgs false

set_option maxHeartbeats 1000000 in
theorem countRange_any {w : World} {lo hi b n : Nat} {S : Nat → Bool} (h : MapAt w lo hi b n S) (a t : Int) (ha : a < 9223372036854775808) :
    Calls Tryd.prog 96 #[.pointer (some ⟨b, 0, none⟩), .int .i64 a, .int .i64 t] w fun e w' => e = .returned (.int .i64 (cntR S a.toNat (min t n).toNat)) ∧ Out 0 0 w w' := by
  have hb5 := h.bounds
  have hM := (h.alloc (.cells #[.pointer (some ⟨b, 0, none⟩)] 78)).alloc (.cells #[.int .i64 0] 3)
  have hB := (Box.new w 78 (.pointer (some ⟨b, 0, none⟩))).alloc (.cells #[.int .i64 0] 3)
  have hC : Box ((w.alloc (.cells #[.pointer (some ⟨b, 0, none⟩)] 78)).alloc (.cells #[.int .i64 0] 3)) (w.heap.size + 1) 3 (.int .i64 0) := heap_alloc2_new _ _ _
  have hO : Out 0 0 w ((w.alloc (.cells #[.pointer (some ⟨b, 0, none⟩)] 78)).alloc (.cells #[.int .i64 0] 3)) := ((Out.refl _ _ _).alloc _).alloc _
  have HL := hid_mk (len_any hM)
  obtain ⟨x, hx, hx2⟩ : ∃ x : Nat, a.toNat = x ∧ x < 9223372036854775808 := ⟨a.toNat, rfl, by omega⟩
  obtain ⟨y, hy, hy2⟩ : ∃ y : Int, min t n = y ∧ y ≤ n := ⟨_, rfl, by omega⟩
  have HP := hid_mk (piecesCount (w.heap.size + 1) w.heap.size (fun s w' => MapAt w' lo hi b n S ∧ Box w' w.heap.size 78 (.pointer (some ⟨b, 0, none⟩)) ∧ Box w' (w.heap.size + 1) 3 (.int .i64 (cntR S x (min (64 * s) y.toNat))) ∧ Out 0 0 w w')
    (fun s w' ⟨x1, x2, x3, x4⟩ => ⟨x1.drew, x2, x3, x4.drew⟩) x y hx2 (by omega)
    (fun s w' hs hl ⟨x1, x2, x3, x4⟩ => (countPiece x1 x2 x3 (by omega) (by have := cntR_le S x (min (64 * s) y.toNat); omega) (by omega) s (by unfold nw; omega) _ (msk_lt _ _)).mono
      fun e w2 ⟨y1, y2, y3⟩ => ⟨y1, x1.kept y3 (.inl (by omega)) (.inl (by omega)), x2.kept y3 (.inl (by omega)), by
        have := piece_pop S x y.toNat s
        rw [show 64 * (s + 1) = 64 * s + 64 from by omega, ← this]
        simpa using y2, x4.past y3 (by omega)⟩)
    (w := (w.alloc (.cells #[.pointer (some ⟨b, 0, none⟩)] 78)).alloc (.cells #[.int .i64 0] 3)) ⟨hM, hB, by rw [cntR_nil _ _ _ (by omega)]; exact hC, hO⟩)
  have c0 := hB.cell
  have c1 := hC.cell
  have c2 := hC.frozen
  rw [hx, hy]
  clear h hM hB hO hb5 hC
  by_cases h0 : 0 ≤ a
  · obtain rfl : a = x := by omega
    by_cases h1 : t ≤ n
    · obtain rfl : y = t := by omega
      clear hy hx ha hx2
      go_enter Tryd.func96, Tryd.ntmps96
      go_wp2_with (first
        | (go_at_call 54; refine calls_same HL.out ?_)
        | (go_at_call 100; refine HP.out.mono ?_; rintro e w2 ⟨rfl, s, z1, z2, z3, z4, z5, z6, z7⟩; have z8 := z6.cell; clear c0 c1 c2))
      go_ret
      exact ⟨ret_int (by first | rfl | (congr 2; omega)), by assumption⟩
    · obtain rfl : y = n := by omega
      have h2 : (n : Int) < t := by omega
      clear hy hx ha hx2 h1
      go_enter Tryd.func96, Tryd.ntmps96
      go_wp2_with (first
        | (go_at_call 54; refine calls_same HL.out ?_)
        | (go_at_call 100; refine HP.out.mono ?_; rintro e w2 ⟨rfl, s, z1, z2, z3, z4, z5, z6, z7⟩; have z8 := z6.cell; clear c0 c1 c2))
      go_ret
      exact ⟨ret_int (by first | rfl | (congr 2; omega)), by assumption⟩
  · obtain rfl : x = 0 := by omega
    have h3 : a < 0 := by omega
    rw [show ((0 : Nat) : Int) = 0 from rfl] at HP
    by_cases h1 : t ≤ n
    · obtain rfl : y = t := by omega
      clear hy hx ha hx2 h0
      go_enter Tryd.func96, Tryd.ntmps96
      go_wp2_with (first
        | (go_at_call 54; refine calls_same HL.out ?_)
        | (go_at_call 100; refine HP.out.mono ?_; rintro e w2 ⟨rfl, s, z1, z2, z3, z4, z5, z6, z7⟩; have z8 := z6.cell; clear c0 c1 c2))
      go_ret
      exact ⟨ret_int (by first | rfl | (congr 2; omega)), by assumption⟩
    · obtain rfl : y = n := by omega
      have h2 : (n : Int) < t := by omega
      clear hy hx ha hx2 h1 h0
      go_enter Tryd.func96, Tryd.ntmps96
      go_wp2_with (first
        | (go_at_call 54; refine calls_same HL.out ?_)
        | (go_at_call 100; refine HP.out.mono ?_; rintro e w2 ⟨rfl, s, z1, z2, z3, z4, z5, z6, z7⟩; have z8 := z6.cell; clear c0 c1 c2))
      go_ret
      exact ⟨ret_int (by first | rfl | (congr 2; omega)), by assumption⟩
end Go.Proofs.YtjbbkeoolodeaabDoor
namespace Go.Proofs.YtjbbkeoolodeaabDoor
open Go.RowKit
set_option linter.unusedVariables false
set_option linter.unusedSimpArgs false

theorem Row.fillAll {b k : Nat} {T : TypeId} (v : Value) (m : Nat) : ∀ (o : Nat) (w : World) (f : Nat → Value), Row w b T k f → Row (w.setCells b o (List.replicate m v)) b T k (fun i => if o ≤ i ∧ i < o + m then v else f i) := by
  induction m with
  | zero => intro o w f h; exact h.congr fun i hi => by rw [if_neg (by omega)]
  | succ m ih =>
    intro o w f h
    show Row ((w.setCell ⟨b, o, none⟩ v).setCells b (o + 1) (List.replicate m v)) b T k _
    refine (ih (o + 1) _ _ (h.set o v)).congr fun i hi => ?_
    by_cases h1 : i = o
    · subst h1; simp
    · by_cases h2 : o + 1 ≤ i ∧ i < o + 1 + m
      · rw [if_pos h2, if_pos (by omega)]
      · have h3 : ¬ (o ≤ i ∧ i < o + (m + 1)) := by omega
        simp only [if_neg h2, if_neg h3, if_neg h1]
theorem Out.setAll {b lo hi : Nat} (hb : lo ≤ b ∧ b < hi) (v : Value) (m : Nat) : ∀ (o : Nat) (a w : World), Out lo hi a w → Out lo hi a (w.setCells b o (List.replicate m v)) := by
  induction m with
  | zero => intro o a w h; exact h
  | succ m ih => intro o a w h; exact ih (o + 1) a _ (h.setCell (.inl hb) v)
theorem heap_setAll {b c : Nat} (h : c ≠ b) (v : Value) (m : Nat) : ∀ (o : Nat) (w : World), (w.setCells b o (List.replicate m v)).heap[c]? = w.heap[c]? := by
  induction m with
  | zero => intro o w; rfl
  | succ m ih => intro o w; exact (ih (o + 1) _).trans (Below.heap_setCell _ _ _ _ h)
theorem zero_u64 (w : World) : (zeroValue 103).run Tryd.prog w = .ok (.int .u64 0) w := by kernel_rfl
theorem reset_any {w : World} {lo hi b n : Nat} {S : Nat → Bool} (h : MapAt w lo hi b n S) :
    Calls Tryd.prog 88 #[.pointer (some ⟨b, 0, none⟩)] w fun e w' => e = .returned (.tuple #[]) ∧ MapAt w' lo hi b n (fun _ => false) ∧ Out lo hi w w' := by
  obtain ⟨bw, cap, hb, h1, h2, h3, h4, h5, h6, h7, h8, l1, l2, l3, hr⟩ := h
  have c1 : w.cell? ⟨b, 1, none⟩ = some (.slice (some ⟨bw, 0, none⟩) (nw n) cap) := by simp [World.cell?, hb]
  have hO : Out lo hi w (w.setCells bw 0 (List.replicate (nw n) (.int .u64 0))) := Out.setAll ⟨l1, l2⟩ _ _ _ _ _ (Out.refl _ _ _)
  have HF : Hid (MapAt (w.setCells bw 0 (List.replicate (nw n) (.int .u64 0))) lo hi b n (fun _ => false)) := by
    refine ⟨bw, cap, by rw [heap_setAll (Ne.symm l3)]; exact hb, h1, h2, Nat.le_trans h3 hO.size, h4, h5, h6, fun _ _ => rfl, h8.kept hO (.inl h4), l1, l2, l3, (Row.fillAll _ _ _ _ _ hr).congr fun i hi => ?_⟩
    rw [if_pos (by omega), pk_none_all]; rfl
  have HO := hid_mk hO
  by_cases hn : 0 < nw n
  · have hcl : ∀ ty, (Builtin.clear_ #[117] ty #[.slice (some ⟨bw, 0, none⟩) (nw n) cap]).run Tryd.prog w = .ok (.tuple #[]) (w.setCells bw 0 (List.replicate (nw n) (.int .u64 0))) :=
      fun ty => Lib.run_clear_slice w 117 103 ty (.int .u64 0) Tryd.underlying117 zero_u64 rfl rfl bw 0 (nw n) cap hn (fun j hj => by rw [Nat.zero_add, hr.cell hj]; rfl) (fun j hj => hr.frozen _)
    clear hb hr h7 h8 hO
    go_enter Tryd.func88, Tryd.ntmps88
    go_wp2_with (simp only [hcl])
    exact bodyPost_end (results_none Tryd.results88 _ _ _) rfl ⟨rfl, HF.out, HO.out⟩
  · have h0 : nw n = 0 := by omega
    rw [h0] at HF HO c1
    have hcl : ∀ ty, (Builtin.clear_ #[117] ty #[.slice (some ⟨bw, 0, none⟩) 0 cap]).run Tryd.prog w = .ok (.tuple #[]) w := fun ty => by
      simp [Builtin.clear_, run_underlying Tryd.underlying117]
    clear hb hr h7 h8 hO
    go_enter Tryd.func88, Tryd.ntmps88
    go_wp2_with (simp only [hcl])
    exact bodyPost_end (results_none Tryd.results88 _ _ _) rfl ⟨rfl, HF.out, HO.out⟩
/-- an All of the map b: the block that holds its pointer -/
def AllAt (w : World) (lo hi g b : Nat) : Prop := lo ≤ g ∧ g < hi ∧ hi ≤ w.heap.size ∧ Box w g 78 (.pointer (some ⟨b, 0, none⟩))
theorem AllAt.kept {w w' : World} {lo hi g b lo' hi' : Nat} (h : AllAt w lo hi g b) (o : Out lo' hi' w w') (hd : hi ≤ lo' ∨ hi' ≤ lo) : AllAt w' lo hi g b :=
  ⟨h.1, h.2.1, Nat.le_trans h.2.2.1 o.size, h.2.2.2.kept o (by have := h.1; have := h.2.1; omega)⟩
theorem ball_any (b : Nat) (w : World) :
    Calls Tryd.prog 50 #[.pointer (some ⟨b, 0, none⟩)] w fun e w' => e = .returned (.func (.func 72) #[] #[.pointer (some ⟨w.heap.size, 0, none⟩)]) ∧ w' = w.alloc (.cells #[.pointer (some ⟨b, 0, none⟩)] 78) := by
  go_enter Tryd.func50, Tryd.ntmps50
  go_wp2
  go_ret
  exact ⟨rfl, rfl⟩
end Go.Proofs.YtjbbkeoolodeaabDoor
