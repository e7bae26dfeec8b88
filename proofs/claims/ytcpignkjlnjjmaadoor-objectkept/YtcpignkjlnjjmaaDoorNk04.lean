import Derived.Laws.Bits64b
import Derived.Lib.TrailingZeros
import Derived.Test.YtcpignkjlnjjmaaDoorNk02
import Derived.Test.YtcpignkjlnjjmaaDoorNk03
namespace Go.Proofs.YtcpignkjlnjjmaaDoor
open Go
set_option linter.unusedVariables false
set_option linter.unusedSimpArgs false

/-- the number whose bits below k are f's -/
def pkN (f : Nat → Bool) : Nat → Nat
  | 0 => 0
  | k + 1 => pkN f k + if f k then 2 ^ k else 0
theorem pkN_lt (f : Nat → Bool) (k : Nat) : pkN f k < 2 ^ k := by
  induction k with
  | zero => simp [pkN]
  | succ k ih => unfold pkN; rw [Nat.pow_succ]; split <;> omega
theorem pkN_bit (f : Nat → Bool) (k j : Nat) : (pkN f k).testBit j = (decide (j < k) && f j) := by
  induction k with
  | zero => simp [pkN]
  | succ k ih =>
    have hl := pkN_lt f k
    unfold pkN
    by_cases hf : f k = true
    · rw [if_pos hf, Nat.add_comm, show 2 ^ k + pkN f k = 2 ^ k * 1 + pkN f k from by omega, Nat.testBit_two_pow_mul_add _ hl, ih]
      by_cases h1 : j < k
      · simp [h1]; omega
      · rw [if_neg h1]
        by_cases h2 : j = k
        · subst h2; simp [hf]
        · have : ¬ j < k + 1 := by omega
          obtain ⟨d, hd⟩ : ∃ d, j - k = d + 1 := ⟨j - k - 1, by omega⟩
          rw [hd, Nat.testBit_succ]
          simp [this]
    · rw [if_neg hf, Nat.add_zero, ih]
      by_cases h2 : j = k
      · subst h2; simp [hf]
      · have : (j < k) ↔ (j < k + 1) := by omega
        simp [this]
/-- the i-th word of a set -/
def pk (S : Nat → Bool) (i : Nat) : Nat := pkN (fun j => S (64 * i + j)) 64
theorem pk_lt (S : Nat → Bool) (i : Nat) : pk S i < 18446744073709551616 := pkN_lt _ 64
theorem pk_bit (S : Nat → Bool) (i j : Nat) : (pk S i).testBit j = (decide (j < 64) && S (64 * i + j)) := pkN_bit _ _ _
theorem pk_ext {S : Nat → Bool} {i x : Nat} (h : ∀ j, x.testBit j = (decide (j < 64) && S (64 * i + j))) : x = pk S i :=
  Nat.eq_of_testBit_eq fun j => by rw [h, pk_bit]
theorem pk_congr {S T : Nat → Bool} {i : Nat} (h : ∀ j, j < 64 → S (64 * i + j) = T (64 * i + j)) : pk S i = pk T i :=
  pk_ext fun j => by rw [pk_bit]; by_cases hj : j < 64 <;> simp [hj, h]
/-- the complement within 64 bits -/
theorem bit_full (j : Nat) : (18446744073709551615 : Nat).testBit j = decide (j < 64) := Nat.testBit_two_pow_sub_one 64 j
theorem bit_not64 (x j : Nat) (h : x < 18446744073709551616) : (18446744073709551615 - x).testBit j = (decide (j < 64) && !x.testBit j) := by
  have := Nat.testBit_two_pow_sub_succ (n := 64) (x := x) h j
  rw [show 2 ^ 64 - (x + 1) = 18446744073709551615 - x from by omega] at this
  exact this
theorem bits_andNot_u64_nat (a b : Nat) (ha : a < 18446744073709551616) (hb : b < 18446744073709551616) :
    bits .andNot .u64 (a : Int) (b : Int) = ((a &&& (18446744073709551615 - b) : Nat) : Int) := by
  have hx : a &&& (18446744073709551615 - b) < 2 ^ 64 := Nat.and_lt_two_pow _ (by omega)
  have h1 : (BitVec.ofInt 64 (a : Int)).toNat = a := by
    rw [BitVec.ofInt_natCast, BitVec.toNat_ofNat]; exact Nat.mod_eq_of_lt (by omega)
  have h2 : (BitVec.ofInt 64 (b : Int)).toNat = b := by
    rw [BitVec.ofInt_natCast, BitVec.toNat_ofNat]; exact Nat.mod_eq_of_lt (by omega)
  show IntKind.u64.wrap ((BitVec.ofInt 64 (a : Int) &&& ~~~ BitVec.ofInt 64 (b : Int)).toNat : Int) = _
  rw [BitVec.toNat_and, BitVec.toNat_not, h1, h2, IntKind.wrap_u64]
  rw [show 2 ^ 64 - 1 - b = 18446744073709551615 - b from by omega]
  omega

def upd (S : Nat → Bool) (i : Nat) (b : Bool) : Nat → Bool := fun j => if j = i then b else S j
theorem pk_upd_other (S : Nat → Bool) (i k : Nat) (b : Bool) (h : k ≠ i / 64) : pk (upd S i b) k = pk S k :=
  pk_congr fun j hj => by unfold upd; rw [if_neg (by omega)]
theorem pk_set (S : Nat → Bool) (i : Nat) : pk S (i / 64) ||| 2 ^ (i % 64) = pk (upd S i true) (i / 64) :=
  pk_ext fun j => by
    rw [Nat.testBit_or, pk_bit, Nat.testBit_two_pow]
    unfold upd
    by_cases h : 64 * (i / 64) + j = i
    · have hj : i % 64 = j := by omega
      have hj' : j < 64 := by omega
      simp [h, hj, hj']
    · rw [if_neg h]
      by_cases hj : i % 64 = j
      · omega
      · simp [hj]
theorem pk_clear (S : Nat → Bool) (i : Nat) : pk S (i / 64) &&& (18446744073709551615 - 2 ^ (i % 64)) = pk (upd S i false) (i / 64) :=
  pk_ext fun j => by
    have hp : 2 ^ (i % 64) < 18446744073709551616 := Nat.pow_lt_pow_right (a := 2) (by omega) (show i % 64 < 64 by omega)
    rw [Nat.testBit_and, pk_bit, bit_not64 _ _ hp, Nat.testBit_two_pow]
    unfold upd
    by_cases h : 64 * (i / 64) + j = i
    · have hj : i % 64 = j := by omega
      simp [h, hj]
    · rw [if_neg h]
      by_cases hj : i % 64 = j
      · omega
      · by_cases h6 : j < 64 <;> simp [hj, h6]
theorem pk_get (S : Nat → Bool) (i : Nat) : pk S (i / 64) &&& 2 ^ (i % 64) = if S i then 2 ^ (i % 64) else 0 := by
  apply Nat.eq_of_testBit_eq
  intro j
  rw [Nat.testBit_and, pk_bit, Nat.testBit_two_pow]
  by_cases hj : i % 64 = j
  · have e : 64 * (i / 64) + j = i := by omega
    have h6 : j < 64 := by omega
    cases hs : S i <;> simp [e, hj, h6, hs]
  · cases hs : S i <;> simp [hj, Nat.testBit_two_pow]

/-- the bits from lo on below hi -/
def msk (lo hi : Nat) : Nat := pkN (fun j => decide (lo ≤ j) && decide (j < hi)) 64
theorem msk_lt (lo hi : Nat) : msk lo hi < 18446744073709551616 := pkN_lt _ 64
theorem msk_bit (lo hi j : Nat) : (msk lo hi).testBit j = (decide (j < 64) && (decide (lo ≤ j) && decide (j < hi))) := pkN_bit _ _ _
/-- all bits, moved up -/
def up (lo : Nat) : Nat := if lo < 64 then 18446744073709551616 - 2 ^ lo else 0
theorem up_lt (lo : Nat) : up lo < 18446744073709551616 := by
  unfold up; have := Nat.two_pow_pos lo; split <;> omega
theorem up_bit (lo j : Nat) : (up lo).testBit j = (decide (j < 64) && decide (lo ≤ j)) := by
  unfold up
  by_cases h : lo < 64
  · rw [if_pos h]
    have hp : 2 ^ lo < 2 ^ 64 := Nat.pow_lt_pow_right (a := 2) (by omega) h
    have h1 := Nat.two_pow_pos lo
    have := bit_not64 (2 ^ lo - 1) j (by omega)
    rw [show 18446744073709551615 - (2 ^ lo - 1) = 18446744073709551616 - 2 ^ lo from by omega, Nat.testBit_two_pow_sub_one] at this
    rw [this]
    by_cases hj : j < lo
    · simp [hj]
    · have : lo ≤ j := by omega
      simp [this, hj]
  · rw [if_neg h]
    by_cases hj : j < 64
    · have : ¬ lo ≤ j := by omega
      simp [this]
    · simp [hj]
theorem up_msk (lo hi : Nat) : up lo &&& (18446744073709551615 - up hi) = msk lo hi :=
  Nat.eq_of_testBit_eq fun j => by
    rw [Nat.testBit_and, up_bit, bit_not64 _ _ (up_lt _), up_bit, msk_bit]
    by_cases h : j < 64
    · by_cases h1 : lo ≤ j <;> by_cases h2 : hi ≤ j <;> simp [h, h1, h2] <;> omega
    · simp [h]

def fill (S : Nat → Bool) (a b : Nat) (x : Bool) : Nat → Bool := fun j => if a ≤ j ∧ j < b then x else S j
theorem fill_nil (S : Nat → Bool) (a b : Nat) (x : Bool) (h : b ≤ a) : fill S a b x = S := by
  funext j; unfold fill; rw [if_neg (by omega)]
/-- the words behind one more piece: start a multiple of 64 -/
theorem pk_fill_other (S : Nat → Bool) (a t k s : Nat) (x : Bool) (h : k ≠ s) : pk (fill S a (min (64 * s + 64) t) x) k = pk (fill S a (min (64 * s) t) x) k := by
  refine pk_congr fun j hj => ?_
  unfold fill
  by_cases h1 : k < s
  · have e : (a ≤ 64 * k + j ∧ 64 * k + j < min (64 * s + 64) t) ↔ (a ≤ 64 * k + j ∧ 64 * k + j < min (64 * s) t) := by omega
    simp only [e]
  · rw [if_neg (by omega), if_neg (by omega)]
theorem pk_fill_set (S : Nat → Bool) (a t s : Nat) : pk (fill S a (min (64 * s) t) true) s ||| msk (a - 64 * s) (min (t - 64 * s) 64) = pk (fill S a (min (64 * s + 64) t) true) s :=
  pk_ext fun j => by
    rw [Nat.testBit_or, pk_bit, msk_bit]
    unfold fill
    by_cases h6 : j < 64
    · rw [if_neg (by omega)]
      by_cases h : a ≤ 64 * s + j ∧ 64 * s + j < min (64 * s + 64) t
      · rw [if_pos h]
        have h1 : a - 64 * s ≤ j := by omega
        have h2 : j < min (t - 64 * s) 64 := by omega
        simp [h6, h1, h2]
      · rw [if_neg h]
        have : ¬ (a - 64 * s ≤ j ∧ j < min (t - 64 * s) 64) := by omega
        have : (decide (a - 64 * s ≤ j) && decide (j < min (t - 64 * s) 64)) = false := by
          rw [← Bool.decide_and]; exact decide_eq_false this
        rw [this]; simp [h6]
    · simp [h6]
theorem pk_fill_clear (S : Nat → Bool) (a t s : Nat) : pk (fill S a (min (64 * s) t) false) s &&& (18446744073709551615 - msk (a - 64 * s) (min (t - 64 * s) 64)) = pk (fill S a (min (64 * s + 64) t) false) s :=
  pk_ext fun j => by
    rw [Nat.testBit_and, pk_bit, bit_not64 _ _ (msk_lt _ _), msk_bit]
    unfold fill
    by_cases h6 : j < 64
    · rw [if_neg (by omega)]
      by_cases h : a ≤ 64 * s + j ∧ 64 * s + j < min (64 * s + 64) t
      · rw [if_pos h]
        have h1 : a - 64 * s ≤ j := by omega
        have h2 : j < min (t - 64 * s) 64 := by omega
        simp [h6, h1, h2]
      · rw [if_neg h]
        have : ¬ (a - 64 * s ≤ j ∧ j < min (t - 64 * s) 64) := by omega
        have : (decide (a - 64 * s ≤ j) && decide (j < min (t - 64 * s) 64)) = false := by
          rw [← Bool.decide_and]; exact decide_eq_false this
        rw [this]; simp [h6]
    · simp [h6]
end Go.Proofs.YtcpignkjlnjjmaaDoor
namespace Go.Proofs.YtcpignkjlnjjmaaDoor
open Go
set_option linter.unusedVariables false
set_option linter.unusedSimpArgs false

/-- how many are in below k -/
def cnt (S : Nat → Bool) : Nat → Nat
  | 0 => 0
  | k + 1 => cnt S k + if S k then 1 else 0
theorem cnt_le (S : Nat → Bool) (k : Nat) : cnt S k ≤ k := by
  induction k with
  | zero => simp [cnt]
  | succ k ih => unfold cnt; split <;> omega
theorem cnt_congr {S T : Nat → Bool} {k : Nat} (h : ∀ j, j < k → S j = T j) : cnt S k = cnt T k := by
  induction k with
  | zero => rfl
  | succ k ih => unfold cnt; rw [ih fun j hj => h j (by omega), h k (by omega)]
theorem cnt_add (S : Nat → Bool) (m k : Nat) : cnt S (m + k) = cnt S m + cnt (fun j => S (m + j)) k := by
  induction k with
  | zero => simp [cnt]
  | succ k ih =>
    show cnt S (m + k) + (if S (m + k) then 1 else 0) = cnt S m + (cnt (fun j => S (m + j)) k + if S (m + k) then 1 else 0)
    rw [ih]; omega
theorem cnt_mono (S : Nat → Bool) (a b : Nat) (h : a ≤ b) : cnt S a ≤ cnt S b := by
  obtain ⟨d, rfl⟩ : ∃ d, b = a + d := ⟨b - a, by omega⟩
  rw [cnt_add]; omega
theorem cnt_zero {S : Nat → Bool} {k : Nat} (h : ∀ j, j < k → S j = false) : cnt S k = 0 := by
  induction k with
  | zero => rfl
  | succ k ih => unfold cnt; rw [ih fun j hj => h j (by omega), h k (by omega)]; simp
theorem cnt_none {S : Nat → Bool} {k : Nat} (h : cnt S k = 0) : ∀ j, j < k → S j = false := by
  induction k with
  | zero => intro j hj; omega
  | succ k ih =>
    unfold cnt at h
    intro j hj
    by_cases e : j = k
    · subst e; by_cases hs : S j = true
      · rw [if_pos hs] at h; omega
      · simpa using hs
    · exact ih (by omega) j (by omega)
theorem cnt_full {S : Nat → Bool} {k : Nat} (h : ∀ j, j < k → S j = true) : cnt S k = k := by
  induction k with
  | zero => rfl
  | succ k ih => unfold cnt; rw [ih fun j hj => h j (by omega), h k (by omega)]; simp
/-- how many are in from a on below b -/
def cntR (S : Nat → Bool) (a b : Nat) : Nat := cnt (fun j => decide (a ≤ j) && S j) b
theorem cntR_le (S : Nat → Bool) (a b : Nat) : cntR S a b ≤ b := cnt_le _ _
theorem cntR_nil (S : Nat → Bool) (a b : Nat) (h : b ≤ a) : cntR S a b = 0 :=
  cnt_zero fun j hj => by have : ¬ a ≤ j := by omega
                          simp [this]
theorem cntR_zero (S : Nat → Bool) (b : Nat) : cntR S 0 b = cnt S b := cnt_congr fun j _ => by simp
theorem cntR_le' (S : Nat → Bool) (a b : Nat) : cntR S a b ≤ b - a := by
  by_cases h : b ≤ a
  · rw [cntR_nil _ _ _ h]; omega
  · obtain ⟨d, rfl⟩ : ∃ d, b = a + d := ⟨b - a, by omega⟩
    unfold cntR
    rw [cnt_add]
    have h0 : cnt (fun j => decide (a ≤ j) && S j) a = 0 := cnt_zero fun j hj => by
      have : ¬ a ≤ j := by omega
      simp [this]
    have := cnt_le (fun j => decide (a ≤ a + j) && S (a + j)) d
    omega
theorem cntR_split (S : Nat → Bool) (a b : Nat) (h : a ≤ b) : cnt S b = cnt S a + cntR S a b := by
  obtain ⟨d, rfl⟩ : ∃ d, b = a + d := ⟨b - a, by omega⟩
  unfold cntR
  rw [cnt_add, cnt_add]
  rw [cnt_zero (k := a) (S := fun j => decide (a ≤ j) && S j) fun j hj => by have : ¬ a ≤ j := by omega
                                                                             simp [this]]
  rw [Nat.zero_add]
  congr 1
  exact cnt_congr fun j _ => by simp
/-- the ones among 64 bits -/
def pop (x : Nat) : Nat := cnt x.testBit 64
theorem pop_le (x : Nat) : pop x ≤ 64 := cnt_le _ _
theorem cnt_cut (F : Nat → Bool) (t m : Nat) : cnt (fun j => F j && decide (j < t)) m = cnt F (min m t) := by
  induction m with
  | zero => simp [cnt]
  | succ m ih =>
    show cnt (fun j => F j && decide (j < t)) m + (if (F m && decide (m < t)) then 1 else 0) = _
    rw [ih]
    by_cases h : m < t
    · rw [show min (m + 1) t = m + 1 from by omega, show min m t = m from by omega]
      show _ = cnt F m + _
      simp [h]
    · rw [show min (m + 1) t = min m t from by omega]
      simp [h]
theorem piece_pop (S : Nat → Bool) (a t s : Nat) : cntR S a (min (64 * s) t) + pop (pk S s &&& msk (a - 64 * s) (min (t - 64 * s) 64)) = cntR S a (min (64 * s + 64) t) := by
  unfold cntR pop
  rw [← cnt_cut, ← cnt_cut, cnt_add]
  congr 1
  refine cnt_congr fun j hj => ?_
  rw [Nat.testBit_and, pk_bit, msk_bit]
  by_cases h1 : a ≤ 64 * s + j
  · have h1' : a - 64 * s ≤ j := by omega
    by_cases h2 : 64 * s + j < t
    · have h2' : j < min (t - 64 * s) 64 := by omega
      simp only [hj, h1, h1', h2, h2', decide_true, Bool.true_and, Bool.and_true]
    · have h2' : ¬ j < min (t - 64 * s) 64 := by omega
      simp only [hj, h1, h1', h2, h2', decide_true, decide_false, Bool.true_and, Bool.and_true, Bool.and_false]
  · have h1' : ¬ a - 64 * s ≤ j := by omega
    simp only [hj, h1, h1', decide_true, decide_false, Bool.true_and, Bool.false_and, Bool.and_false]

/-- the least from 'k' on below n that is P; n: there is none -/
def nx (P : Nat → Bool) (n k : Nat) : Nat := if k < n then (if P k then k else nx P n (k + 1)) else n
termination_by n - k
theorem nx_end (P : Nat → Bool) (n k : Nat) (h : n ≤ k) : nx P n k = n := by rw [nx, if_neg (by omega)]
theorem nx_le (P : Nat → Bool) (n k : Nat) : nx P n k ≤ n := by
  by_cases h : k < n
  · rw [nx, if_pos h]; split
    · omega
    · exact nx_le P n (k + 1)
  · rw [nx, if_neg h]; omega
termination_by n - k
theorem nx_ge (P : Nat → Bool) (n k : Nat) (h : k ≤ n) : k ≤ nx P n k := by
  by_cases h : k < n
  · rw [nx, if_pos h]; split
    · omega
    · have := nx_ge P n (k + 1) (by omega); omega
  · rw [nx, if_neg h]; omega
termination_by n - k
theorem nx_in (P : Nat → Bool) (n k : Nat) (h : nx P n k < n) : P (nx P n k) = true := by
  by_cases h' : k < n
  · rw [nx, if_pos h'] at h ⊢
    by_cases hp : P k = true
    · rw [if_pos hp]; exact hp
    · rw [if_neg hp] at h ⊢; exact nx_in P n (k + 1) h
  · rw [nx, if_neg h'] at h; omega
termination_by n - k
theorem nx_out (P : Nat → Bool) (n k : Nat) : ∀ j, k ≤ j → j < nx P n k → P j = false := by
  intro j h1 h2
  by_cases h' : k < n
  · rw [nx, if_pos h'] at h2
    by_cases hp : P k = true
    · rw [if_pos hp] at h2; omega
    · rw [if_neg hp] at h2
      by_cases e : j = k
      · subst e; simpa using hp
      · exact nx_out P n (k + 1) j (by omega) h2
  · rw [nx, if_neg h'] at h2; omega
termination_by n - k
theorem nx_eq (P : Nat → Bool) (n k r : Nat) (h1 : k ≤ r) (h2 : r ≤ n) (h3 : ∀ j, k ≤ j → j < r → P j = false) (h4 : r < n → P r = true) : nx P n k = r := by
  by_cases h' : k < n
  · rw [nx, if_pos h']
    by_cases hp : P k = true
    · rw [if_pos hp]
      by_cases e : k = r
      · exact e
      · rw [h3 k (by omega) (by omega)] at hp; cases hp
    · rw [if_neg hp]
      have : k ≠ r := fun e => by subst e; exact hp (h4 h')
      exact nx_eq P n (k + 1) r (by omega) h2 (fun j a b => h3 j (by omega) b) h4
  · rw [nx, if_neg h']; omega
termination_by n - k
theorem nx_congr {P Q : Nat → Bool} {n k : Nat} (h : ∀ j, k ≤ j → j < n → P j = Q j) : nx P n k = nx Q n k := by
  by_cases hk : k ≤ n
  · refine nx_eq P n k _ (nx_ge Q n k hk) (nx_le Q n k) (fun j a b => ?_) (fun a => ?_)
    · have := nx_le Q n k
      rw [h j a (by omega)]; exact nx_out Q n k j a b
    · rw [h _ (nx_ge Q n k hk) a]; exact nx_in Q n k a
  · rw [nx_end _ _ _ (by omega), nx_end _ _ _ (by omega)]
/-- as the program tells it -/
def nxr (P : Nat → Bool) (n k : Nat) : Int := if nx P n k < n then (nx P n k : Int) else -1
theorem nxr_ge (P : Nat → Bool) (n k : Nat) : -1 ≤ nxr P n k := by unfold nxr; split <;> omega
theorem nxr_lt (P : Nat → Bool) (n k : Nat) : nxr P n k < n := by unfold nxr; split <;> omega

/-! the least bit of a word -/
theorem ctz_spec (x : Nat) (h0 : x ≠ 0) (h : x < 18446744073709551616) : Lib.ctz 64 x < 64 ∧ x.testBit (Lib.ctz 64 x) = true ∧ ∀ j, j < Lib.ctz 64 x → x.testBit j = false := by
  obtain ⟨m, hm, hk⟩ := Lib.ctzFrom_spec 64 x (by omega) h
  have e : Lib.ctz 64 x = Lib.ctzFrom 64 x := by simp [Lib.ctz, h0]
  rw [e]
  refine ⟨hk, ?_, fun j hj => ?_⟩
  · rw [congrArg (fun y => Nat.testBit y (Lib.ctzFrom 64 x)) hm]
    show (2 ^ Lib.ctzFrom 64 x * (2 * m + 1)).testBit (Lib.ctzFrom 64 x) = true
    rw [Nat.testBit_two_pow_mul]
    simp
  · rw [congrArg (fun y => Nat.testBit y j) hm]
    show (2 ^ Lib.ctzFrom 64 x * (2 * m + 1)).testBit j = false
    rw [Nat.testBit_two_pow_mul]
    have : ¬ Lib.ctzFrom 64 x ≤ j := by omega
    simp [this]
theorem pk_none {T : Nat → Bool} {s : Nat} (h : pk T s = 0) : ∀ j, j < 64 → T (64 * s + j) = false := by
  intro j hj
  have := pk_bit T s j
  rw [h] at this
  simpa [hj] using this.symm
theorem pk_first {T : Nat → Bool} {s : Nat} (h : pk T s ≠ 0) : Lib.ctz 64 (pk T s) < 64 ∧ T (64 * s + Lib.ctz 64 (pk T s)) = true ∧ ∀ j, j < Lib.ctz 64 (pk T s) → T (64 * s + j) = false := by
  obtain ⟨h1, h2, h3⟩ := ctz_spec _ h (pk_lt T s)
  refine ⟨h1, ?_, fun j hj => ?_⟩
  · rw [pk_bit] at h2; simpa [h1] using h2
  · have := h3 j hj
    rw [pk_bit] at this
    have hj' : j < 64 := by omega
    simpa [hj'] using this
def from_ (T : Nat → Bool) (a : Nat) : Nat → Bool := fun j => decide (a ≤ j) && T j
theorem pk_head (T : Nat → Bool) (a : Nat) : pk T (a / 64) &&& (18446744073709551615 - (2 ^ (a % 64) - 1)) = pk (from_ T a) (a / 64) :=
  pk_ext fun j => by
    have hp : 2 ^ (a % 64) < 18446744073709551616 := Nat.pow_lt_pow_right (a := 2) (by omega) (show a % 64 < 64 by omega)
    rw [Nat.testBit_and, pk_bit, bit_not64 _ _ (by omega), Nat.testBit_two_pow_sub_one]
    unfold from_
    by_cases h6 : j < 64
    · by_cases h : j < a % 64
      · have : ¬ a ≤ 64 * (a / 64) + j := by omega
        simp [h6, h, this]
      · have : a ≤ 64 * (a / 64) + j := by omega
        simp [h6, h, this]
    · simp [h6]
theorem pk_tail (T : Nat → Bool) (a s : Nat) (h : a / 64 < s) : pk (from_ T a) s = pk T s :=
  pk_congr fun j hj => by
    unfold from_
    have : a ≤ 64 * s + j := by omega
    simp [this]
theorem pk_flip0 (S : Nat → Bool) (s : Nat) : pk S s ^^^ 0 = pk S s := Nat.xor_zero _
theorem pk_flip1 (S : Nat → Bool) (s : Nat) : pk S s ^^^ 18446744073709551615 = pk (fun j => !S j) s :=
  pk_ext fun j => by
    rw [Nat.testBit_xor, pk_bit, bit_full]
    by_cases h6 : j < 64 <;> simp [h6]
/-- what seek comes to -/
theorem seek_found {T : Nat → Bool} {n a s : Nat} (ha : a < n) (hs : a / 64 ≤ s) (hz : ∀ j, a ≤ j → j < 64 * s → T j = false) (h : pk (from_ T a) s ≠ 0) :
    min (s * 64 + Lib.ctz 64 (pk (from_ T a) s)) n = nx T n a := by
  obtain ⟨h1, h2, h3⟩ := pk_first h
  generalize Lib.ctz 64 (pk (from_ T a) s) = c at *
  unfold from_ at h2 h3
  simp only [Bool.and_eq_true, decide_eq_true_eq] at h2
  refine (nx_eq T n a _ (by omega) (by omega) (fun j h4 h5 => ?_) (fun h6 => ?_)).symm
  · by_cases hj : j < 64 * s
    · exact hz j h4 hj
    · have := h3 (j - 64 * s) (by omega)
      rw [show 64 * s + (j - 64 * s) = j from by omega] at this
      simpa [h4] using this
  · rw [show min (s * 64 + c) n = 64 * s + c from by omega]; exact h2.2
theorem seek_none {T : Nat → Bool} {n a s : Nat} (hz : ∀ j, a ≤ j → j < 64 * s → T j = false) (hs : n ≤ 64 * s) : nx T n a = n := by
  by_cases h : a ≤ n
  · exact nx_eq T n a n h (Nat.le_refl _) (fun j a b => hz j a (by omega)) (fun h => by omega)
  · exact nx_end _ _ _ (by omega)
theorem seek_step {T : Nat → Bool} {a s : Nat} (hz : ∀ j, a ≤ j → j < 64 * s → T j = false) (h : pk (from_ T a) s = 0) : ∀ j, a ≤ j → j < 64 * (s + 1) → T j = false := by
  intro j h1 h2
  by_cases hj : j < 64 * s
  · exact hz j h1 hj
  · have := pk_none h (j - 64 * s) (by omega)
    rw [show 64 * s + (j - 64 * s) = j from by omega] at this
    simpa [from_, h1] using this
end Go.Proofs.YtcpignkjlnjjmaaDoor
namespace Go.Proofs.YtcpignkjlnjjmaaDoor
open Go.RowKit
set_option linter.unusedVariables false
set_option linter.unusedSimpArgs false

/-- an object: its kind (0: there is none), size, serial, tag -/
abbrev Blk := Int × Int × Int × Int
def noB : Blk := (0, 0, 0, 0)
def hasB (b : Blk) : Bool := b.1 != 0
/-- a space: its words, its pages, by each place its object, the last serial -/
structure Sp where
  W : Nat → Int
  S : Nat → Int × Int × Int
  O : Nat → Blk
  last : Int
def wN (c : Int) : Nat := (wordsV c).toNat
def roomN (s : Int) : Nat := if 32 < s then ((s + 63) / 64).toNat * 64 else wN (ofV s)
/-- a block of the class begins there in its page -/
def startB (c : Int) (o : Nat) : Bool := decide (o % wN c = 0) && decide (o + wN c ≤ 64)
/-- the free blocks of a class -/
def fr (n : Nat) (st : Sp) (c : Int) (i : Nat) : Bool := decide (i < 64 * n) && (st.S (i / 64) == (1, c, 0)) && startB c (i % 64) && !hasB (st.O i)
def ob (n : Nat) (st : Sp) (i : Nat) : Bool := decide (i < 64 * n) && hasB (st.O i)
def nf (n : Nat) (st : Sp) (c : Int) (i : Nat) : Int := nxr (fr n st c) (64 * n) i
def zeroW (W : Nat → Int) (a k : Nat) : Nat → Int := fun i => if a ≤ i ∧ i < a + k then 0 else W i
def updW (W : Nat → Int) (a : Nat) (v : Int) : Nat → Int := fun i => if i = a then v else W i
def putO (O : Nat → Blk) (a : Nat) (b : Blk) : Nat → Blk := fun i => if i = a then b else O i
/-- the links of a class's free blocks, written -/
def linkW (n : Nat) (st : Sp) (c : Int) : Nat → Int := fun i => if fr n st c i then linkV (nf n st c (i + 1)) else st.W i
def numB (k : Int) : Bool := decide (1 ≤ k) && decide (k ≤ 11)
/-- where an object of so many words would stand, and whether its class takes a page -/
def placeF (n : Nat) (st : Sp) (s : Int) : Option (Nat × Bool) :=
  if 32 < s then (rowF st.S n ((s + 63) / 64).toNat).map fun p => (64 * p, false)
  else if 0 ≤ nf n st (ofV s) 0 then some ((nf n st (ofV s) 0).toNat, false) else (rowF st.S n 1).map fun p => (64 * p, true)
def takeS (st : Sp) (a : Nat) (fresh : Bool) (s : Int) : Nat → Int × Int × Int :=
  if 32 < s then setR st.S (a / 64) ((s + 63) / 64).toNat else if fresh then setC st.S (a / 64) (ofV s) else st.S
def serOf (st : Sp) (k : Int) : Int := if numB k then st.last + 1 else 0
def lastOf (st : Sp) (k : Int) : Int := if numB k then st.last + 1 else st.last
/-- the object stands there from now on -/
def takeF (n : Nat) (st : Sp) (a : Nat) (fresh : Bool) (k s t : Int) : Sp :=
  let O' := putO st.O a (k, s, serOf st k, t)
  let S' := takeS st a fresh s
  let W1 := if fresh then linkW n ⟨zeroW st.W a 64, S', O', 0⟩ (ofV s) else st.W
  ⟨updW (zeroW W1 a (roomN s)) a (makeV a k s), S', O', lastOf st k⟩
/-- Alloc: the place, the error, the error's place, the space behind it -/
def alF (n : Nat) (st : Sp) (k s t : Int) : Int × Int × Int × Sp :=
  if fitsB k s then
    match placeF n st s with
    | none => (0, 20, 0, st)
    | some (a, fresh) =>
      if s ≤ 32 ∧ fresh = false ∧ st.W a ≠ linkV (nf n st (ofV s) (a + 1)) then (0, 21, a, st) else (a, 0, 0, takeF n st a fresh k s t)
  else (0, 24, 0, st)

/-- an object at a place -/
def ObOk (n : Nat) (S : Nat → Int × Int × Int) (a : Nat) (b : Blk) : Prop :=
  a < 64 * n ∧ fitsB b.1 b.2.1 = true ∧ ((b.2.1 ≤ 32 ∧ S (a / 64) = (1, ofV b.2.1, 0) ∧ startB (ofV b.2.1) (a % 64) = true) ∨ (32 < b.2.1 ∧ a % 64 = 0 ∧ S (a / 64) = (2, 0, (b.2.1 + 63) / 64)))
structure Inv (n : Nat) (st : Sp) : Prop where
  n1 : 1 ≤ n
  n2 : n ≤ 4096
  good : Good n st.S
  objs : ∀ a, hasB (st.O a) = true → ObOk n st.S a (st.O a)
  none : ∀ a, hasB (st.O a) = false → st.O a = noB
  heads : ∀ p, p < n → (st.S p).1 = 2 → hasB (st.O (64 * p)) = true
  last0 : 0 ≤ st.last
  ser : ∀ a, hasB (st.O a) = true → (numB (st.O a).1 = true → 1 ≤ (st.O a).2.2.1 ∧ (st.O a).2.2.1 ≤ st.last) ∧ (numB (st.O a).1 = false → (st.O a).2.2.1 = 0)
  one : ∀ a b, hasB (st.O a) = true → hasB (st.O b) = true → 1 ≤ (st.O a).2.2.1 → (st.O a).2.2.1 = (st.O b).2.2.1 → a = b

theorem fits_size {k s : Int} (h : fitsB k s = true) : 1 ≤ k ∧ k ≤ 13 ∧ 1 ≤ s ∧ s ≤ 1024 := by
  obtain ⟨h1, h2, h3, _⟩ := fitsB_iff.1 h
  obtain ⟨j, rfl, j1, j2⟩ := known_nat h1
  obtain ⟨w1, w2, w3, w4, w5, w6, w7⟩ := wd_mo j1 j2
  refine ⟨by omega, by omega, by omega, ?_⟩
  by_cases e : j = 4
  · subst e
    have m : mo 4 = 4096 := rfl
    have m2 : wd 4 = 2 := rfl
    rw [show ((4 : Nat) : Int) = 4 from rfl, part_4, m, m2] at h3
    omega
  · rw [part_not4 (by omega)] at h3
    rcases kinds j1 j2 with rfl | rfl | rfl | rfl | rfl | rfl | rfl | rfl | rfl | rfl | rfl | rfl | rfl <;> (first | omega | (simp [wd, mo] at h3; omega))
theorem wN_pos {c : Int} (h0 : 0 ≤ c) (h7 : c ≤ 7) : 2 ≤ wN c ∧ wN c ≤ 32 := by
  have : c = 0 ∨ c = 1 ∨ c = 2 ∨ c = 3 ∨ c = 4 ∨ c = 5 ∨ c = 6 ∨ c = 7 := by omega
  rcases this with rfl | rfl | rfl | rfl | rfl | rfl | rfl | rfl <;> decide
theorem of_small {s : Int} (h1 : 1 ≤ s) (h2 : s ≤ 32) : 0 ≤ ofV s ∧ ofV s ≤ 7 ∧ s ≤ wordsV (ofV s) := by
  unfold ofV wordsV
  omega
theorem hasB_put {O : Nat → Blk} {a i : Nat} {b : Blk} : hasB (putO O a b i) = if i = a then hasB b else hasB (O i) := by
  unfold putO; split <;> rfl
theorem fr_iff {n : Nat} {st : Sp} {c : Int} {i : Nat} : fr n st c i = true ↔ i < 64 * n ∧ st.S (i / 64) = (1, c, 0) ∧ startB c (i % 64) = true ∧ hasB (st.O i) = false := by
  unfold fr
  rw [Bool.and_eq_true, Bool.and_eq_true, Bool.and_eq_true]
  simp [and_assoc]
theorem fr_beyond (n : Nat) (st : Sp) (c : Int) : ∀ j, 64 * n ≤ j → fr n st c j = false := fun j hj => by
  unfold fr; rw [show decide (j < 64 * n) = false from by simp; omega]; rfl
theorem ob_beyond (n : Nat) (st : Sp) : ∀ j, 64 * n ≤ j → ob n st j = false := fun j hj => by
  unfold ob; rw [show decide (j < 64 * n) = false from by simp; omega]; rfl
theorem ob_has {n : Nat} {st : Sp} (h : Inv n st) (i : Nat) : ob n st i = hasB (st.O i) := by
  unfold ob
  cases e : hasB (st.O i) with
  | false => simp
  | true => simp [(h.objs i e).1]
/-- the next one: none, or the least -/
theorem nxr_cases (P : Nat → Bool) (n k : Nat) : (nxr P n k = -1 ∧ ∀ j, k ≤ j → j < n → P j = false) ∨ ∃ i : Nat, nxr P n k = i ∧ i < n ∧ (k ≤ n → k ≤ i) ∧ P i = true ∧ ∀ j, k ≤ j → j < i → P j = false := by
  unfold nxr
  by_cases h : nx P n k < n
  · rw [if_pos h]
    exact .inr ⟨nx P n k, rfl, h, nx_ge P n k, nx_in P n k h, nx_out P n k⟩
  · rw [if_neg h]
    have := nx_le P n k
    exact .inl ⟨rfl, fun j h1 h2 => nx_out P n k j h1 (by omega)⟩
end Go.Proofs.YtcpignkjlnjjmaaDoor
