/- counting and looking: plain mathematics -/
import Derived.Test.YtnkobcldagajeabDoorBp
namespace Go.Proofs.YtnkobcldagajeabDoor
open Go
set_option linter.unusedVariables false
set_option linter.unusedSimpArgs false

/-- how many are in below k -/
def cnt (S : Nat → Bool) : Nat → Nat
  | 0 => 0
  | k + 1 => cnt S k + if S k then 1 else 0
theorem cnt_le (S : Nat → Bool) (k : Nat) : cnt S k ≤ k := by
  induction k with
  | zero => simp [cnt]
  | succ k ih => unfold cnt; split <;> omega
theorem cnt_congr {S T : Nat → Bool} {k : Nat} (h : ∀ j, j < k → S j = T j) : cnt S k = cnt T k := by
  induction k with
  | zero => rfl
  | succ k ih => unfold cnt; rw [ih fun j hj => h j (by omega), h k (by omega)]
theorem cnt_add (S : Nat → Bool) (m k : Nat) : cnt S (m + k) = cnt S m + cnt (fun j => S (m + j)) k := by
  induction k with
  | zero => simp [cnt]
  | succ k ih =>
    show cnt S (m + k) + (if S (m + k) then 1 else 0) = cnt S m + (cnt (fun j => S (m + j)) k + if S (m + k) then 1 else 0)
    rw [ih]; omega
theorem cnt_mono (S : Nat → Bool) (a b : Nat) (h : a ≤ b) : cnt S a ≤ cnt S b := by
  obtain ⟨d, rfl⟩ : ∃ d, b = a + d := ⟨b - a, by omega⟩
  rw [cnt_add]; omega
theorem cnt_zero {S : Nat → Bool} {k : Nat} (h : ∀ j, j < k → S j = false) : cnt S k = 0 := by
  induction k with
  | zero => rfl
  | succ k ih => unfold cnt; rw [ih fun j hj => h j (by omega), h k (by omega)]; simp
theorem cnt_none {S : Nat → Bool} {k : Nat} (h : cnt S k = 0) : ∀ j, j < k → S j = false := by
  induction k with
  | zero => intro j hj; omega
  | succ k ih =>
    unfold cnt at h
    intro j hj
    by_cases e : j = k
    · subst e; by_cases hs : S j = true
      · rw [if_pos hs] at h; omega
      · simpa using hs
    · exact ih (by omega) j (by omega)
theorem cnt_full {S : Nat → Bool} {k : Nat} (h : ∀ j, j < k → S j = true) : cnt S k = k := by
  induction k with
  | zero => rfl
  | succ k ih => unfold cnt; rw [ih fun j hj => h j (by omega), h k (by omega)]; simp
/-- how many are in from a on below b -/
def cntR (S : Nat → Bool) (a b : Nat) : Nat := cnt (fun j => decide (a ≤ j) && S j) b
theorem cntR_le (S : Nat → Bool) (a b : Nat) : cntR S a b ≤ b := cnt_le _ _
theorem cntR_nil (S : Nat → Bool) (a b : Nat) (h : b ≤ a) : cntR S a b = 0 :=
  cnt_zero fun j hj => by have : ¬ a ≤ j := by omega
                          simp [this]
theorem cntR_zero (S : Nat → Bool) (b : Nat) : cntR S 0 b = cnt S b := cnt_congr fun j _ => by simp
theorem cntR_le' (S : Nat → Bool) (a b : Nat) : cntR S a b ≤ b - a := by
  by_cases h : b ≤ a
  · rw [cntR_nil _ _ _ h]; omega
  · obtain ⟨d, rfl⟩ : ∃ d, b = a + d := ⟨b - a, by omega⟩
    unfold cntR
    rw [cnt_add]
    have h0 : cnt (fun j => decide (a ≤ j) && S j) a = 0 := cnt_zero fun j hj => by
      have : ¬ a ≤ j := by omega
      simp [this]
    have := cnt_le (fun j => decide (a ≤ a + j) && S (a + j)) d
    omega
theorem cntR_split (S : Nat → Bool) (a b : Nat) (h : a ≤ b) : cnt S b = cnt S a + cntR S a b := by
  obtain ⟨d, rfl⟩ : ∃ d, b = a + d := ⟨b - a, by omega⟩
  unfold cntR
  rw [cnt_add, cnt_add]
  rw [cnt_zero (k := a) (S := fun j => decide (a ≤ j) && S j) fun j hj => by have : ¬ a ≤ j := by omega
                                                                             simp [this]]
  rw [Nat.zero_add]
  congr 1
  exact cnt_congr fun j _ => by simp
/-- the ones among 64 bits -/
def pop (x : Nat) : Nat := cnt x.testBit 64
theorem pop_le (x : Nat) : pop x ≤ 64 := cnt_le _ _
theorem cnt_cut (F : Nat → Bool) (t m : Nat) : cnt (fun j => F j && decide (j < t)) m = cnt F (min m t) := by
  induction m with
  | zero => simp [cnt]
  | succ m ih =>
    show cnt (fun j => F j && decide (j < t)) m + (if (F m && decide (m < t)) then 1 else 0) = _
    rw [ih]
    by_cases h : m < t
    · rw [show min (m + 1) t = m + 1 from by omega, show min m t = m from by omega]
      show _ = cnt F m + _
      simp [h]
    · rw [show min (m + 1) t = min m t from by omega]
      simp [h]
theorem piece_pop (S : Nat → Bool) (a t s : Nat) : cntR S a (min (64 * s) t) + pop (pk S s &&& msk (a - 64 * s) (min (t - 64 * s) 64)) = cntR S a (min (64 * s + 64) t) := by
  unfold cntR pop
  rw [← cnt_cut, ← cnt_cut, cnt_add]
  congr 1
  refine cnt_congr fun j hj => ?_
  rw [Nat.testBit_and, pk_bit, msk_bit]
  by_cases h1 : a ≤ 64 * s + j
  · have h1' : a - 64 * s ≤ j := by omega
    by_cases h2 : 64 * s + j < t
    · have h2' : j < min (t - 64 * s) 64 := by omega
      simp only [hj, h1, h1', h2, h2', decide_true, Bool.true_and, Bool.and_true]
    · have h2' : ¬ j < min (t - 64 * s) 64 := by omega
      simp only [hj, h1, h1', h2, h2', decide_true, decide_false, Bool.true_and, Bool.and_true, Bool.and_false]
  · have h1' : ¬ a - 64 * s ≤ j := by omega
    simp only [hj, h1, h1', decide_true, decide_false, Bool.true_and, Bool.false_and, Bool.and_false]

/-- the least from 'k' on below n that is P; n: there is none -/
def nx (P : Nat → Bool) (n k : Nat) : Nat := if k < n then (if P k then k else nx P n (k + 1)) else n
termination_by n - k
theorem nx_end (P : Nat → Bool) (n k : Nat) (h : n ≤ k) : nx P n k = n := by rw [nx, if_neg (by omega)]
theorem nx_le (P : Nat → Bool) (n k : Nat) : nx P n k ≤ n := by
  by_cases h : k < n
  · rw [nx, if_pos h]; split
    · omega
    · exact nx_le P n (k + 1)
  · rw [nx, if_neg h]; omega
termination_by n - k
theorem nx_ge (P : Nat → Bool) (n k : Nat) (h : k ≤ n) : k ≤ nx P n k := by
  by_cases h : k < n
  · rw [nx, if_pos h]; split
    · omega
    · have := nx_ge P n (k + 1) (by omega); omega
  · rw [nx, if_neg h]; omega
termination_by n - k
theorem nx_in (P : Nat → Bool) (n k : Nat) (h : nx P n k < n) : P (nx P n k) = true := by
  by_cases h' : k < n
  · rw [nx, if_pos h'] at h ⊢
    by_cases hp : P k = true
    · rw [if_pos hp]; exact hp
    · rw [if_neg hp] at h ⊢; exact nx_in P n (k + 1) h
  · rw [nx, if_neg h'] at h; omega
termination_by n - k
theorem nx_out (P : Nat → Bool) (n k : Nat) : ∀ j, k ≤ j → j < nx P n k → P j = false := by
  intro j h1 h2
  by_cases h' : k < n
  · rw [nx, if_pos h'] at h2
    by_cases hp : P k = true
    · rw [if_pos hp] at h2; omega
    · rw [if_neg hp] at h2
      by_cases e : j = k
      · subst e; simpa using hp
      · exact nx_out P n (k + 1) j (by omega) h2
  · rw [nx, if_neg h'] at h2; omega
termination_by n - k
theorem nx_eq (P : Nat → Bool) (n k r : Nat) (h1 : k ≤ r) (h2 : r ≤ n) (h3 : ∀ j, k ≤ j → j < r → P j = false) (h4 : r < n → P r = true) : nx P n k = r := by
  by_cases h' : k < n
  · rw [nx, if_pos h']
    by_cases hp : P k = true
    · rw [if_pos hp]
      by_cases e : k = r
      · exact e
      · rw [h3 k (by omega) (by omega)] at hp; cases hp
    · rw [if_neg hp]
      have : k ≠ r := fun e => by subst e; exact hp (h4 h')
      exact nx_eq P n (k + 1) r (by omega) h2 (fun j a b => h3 j (by omega) b) h4
  · rw [nx, if_neg h']; omega
termination_by n - k
theorem nx_congr {P Q : Nat → Bool} {n k : Nat} (h : ∀ j, k ≤ j → j < n → P j = Q j) : nx P n k = nx Q n k := by
  by_cases hk : k ≤ n
  · refine nx_eq P n k _ (nx_ge Q n k hk) (nx_le Q n k) (fun j a b => ?_) (fun a => ?_)
    · have := nx_le Q n k
      rw [h j a (by omega)]; exact nx_out Q n k j a b
    · rw [h _ (nx_ge Q n k hk) a]; exact nx_in Q n k a
  · rw [nx_end _ _ _ (by omega), nx_end _ _ _ (by omega)]
/-- as the program tells it -/
def nxr (P : Nat → Bool) (n k : Nat) : Int := if nx P n k < n then (nx P n k : Int) else -1
theorem nxr_ge (P : Nat → Bool) (n k : Nat) : -1 ≤ nxr P n k := by unfold nxr; split <;> omega
theorem nxr_lt (P : Nat → Bool) (n k : Nat) : nxr P n k < n := by unfold nxr; split <;> omega

/-! the least bit of a word -/
theorem ctz_spec (x : Nat) (h0 : x ≠ 0) (h : x < 18446744073709551616) : Lib.ctz 64 x < 64 ∧ x.testBit (Lib.ctz 64 x) = true ∧ ∀ j, j < Lib.ctz 64 x → x.testBit j = false := by
  obtain ⟨m, hm, hk⟩ := Lib.ctzFrom_spec 64 x (by omega) h
  have e : Lib.ctz 64 x = Lib.ctzFrom 64 x := by simp [Lib.ctz, h0]
  rw [e]
  refine ⟨hk, ?_, fun j hj => ?_⟩
  · rw [congrArg (fun y => Nat.testBit y (Lib.ctzFrom 64 x)) hm]
    show (2 ^ Lib.ctzFrom 64 x * (2 * m + 1)).testBit (Lib.ctzFrom 64 x) = true
    rw [Nat.testBit_two_pow_mul]
    simp
  · rw [congrArg (fun y => Nat.testBit y j) hm]
    show (2 ^ Lib.ctzFrom 64 x * (2 * m + 1)).testBit j = false
    rw [Nat.testBit_two_pow_mul]
    have : ¬ Lib.ctzFrom 64 x ≤ j := by omega
    simp [this]
theorem pk_none {T : Nat → Bool} {s : Nat} (h : pk T s = 0) : ∀ j, j < 64 → T (64 * s + j) = false := by
  intro j hj
  have := pk_bit T s j
  rw [h] at this
  simpa [hj] using this.symm
theorem pk_first {T : Nat → Bool} {s : Nat} (h : pk T s ≠ 0) : Lib.ctz 64 (pk T s) < 64 ∧ T (64 * s + Lib.ctz 64 (pk T s)) = true ∧ ∀ j, j < Lib.ctz 64 (pk T s) → T (64 * s + j) = false := by
  obtain ⟨h1, h2, h3⟩ := ctz_spec _ h (pk_lt T s)
  refine ⟨h1, ?_, fun j hj => ?_⟩
  · rw [pk_bit] at h2; simpa [h1] using h2
  · have := h3 j hj
    rw [pk_bit] at this
    have hj' : j < 64 := by omega
    simpa [hj'] using this
def from_ (T : Nat → Bool) (a : Nat) : Nat → Bool := fun j => decide (a ≤ j) && T j
theorem pk_head (T : Nat → Bool) (a : Nat) : pk T (a / 64) &&& (18446744073709551615 - (2 ^ (a % 64) - 1)) = pk (from_ T a) (a / 64) :=
  pk_ext fun j => by
    have hp : 2 ^ (a % 64) < 18446744073709551616 := Nat.pow_lt_pow_right (a := 2) (by omega) (show a % 64 < 64 by omega)
    rw [Nat.testBit_and, pk_bit, bit_not64 _ _ (by omega), Nat.testBit_two_pow_sub_one]
    unfold from_
    by_cases h6 : j < 64
    · by_cases h : j < a % 64
      · have : ¬ a ≤ 64 * (a / 64) + j := by omega
        simp [h6, h, this]
      · have : a ≤ 64 * (a / 64) + j := by omega
        simp [h6, h, this]
    · simp [h6]
theorem pk_tail (T : Nat → Bool) (a s : Nat) (h : a / 64 < s) : pk (from_ T a) s = pk T s :=
  pk_congr fun j hj => by
    unfold from_
    have : a ≤ 64 * s + j := by omega
    simp [this]
theorem pk_flip0 (S : Nat → Bool) (s : Nat) : pk S s ^^^ 0 = pk S s := Nat.xor_zero _
theorem pk_flip1 (S : Nat → Bool) (s : Nat) : pk S s ^^^ 18446744073709551615 = pk (fun j => !S j) s :=
  pk_ext fun j => by
    rw [Nat.testBit_xor, pk_bit, bit_full]
    by_cases h6 : j < 64 <;> simp [h6]
/-- what seek comes to -/
theorem seek_found {T : Nat → Bool} {n a s : Nat} (ha : a < n) (hs : a / 64 ≤ s) (hz : ∀ j, a ≤ j → j < 64 * s → T j = false) (h : pk (from_ T a) s ≠ 0) :
    min (s * 64 + Lib.ctz 64 (pk (from_ T a) s)) n = nx T n a := by
  obtain ⟨h1, h2, h3⟩ := pk_first h
  generalize Lib.ctz 64 (pk (from_ T a) s) = c at *
  unfold from_ at h2 h3
  simp only [Bool.and_eq_true, decide_eq_true_eq] at h2
  refine (nx_eq T n a _ (by omega) (by omega) (fun j h4 h5 => ?_) (fun h6 => ?_)).symm
  · by_cases hj : j < 64 * s
    · exact hz j h4 hj
    · have := h3 (j - 64 * s) (by omega)
      rw [show 64 * s + (j - 64 * s) = j from by omega] at this
      simpa [h4] using this
  · rw [show min (s * 64 + c) n = 64 * s + c from by omega]; exact h2.2
theorem seek_none {T : Nat → Bool} {n a s : Nat} (hz : ∀ j, a ≤ j → j < 64 * s → T j = false) (hs : n ≤ 64 * s) : nx T n a = n := by
  by_cases h : a ≤ n
  · exact nx_eq T n a n h (Nat.le_refl _) (fun j a b => hz j a (by omega)) (fun h => by omega)
  · exact nx_end _ _ _ (by omega)
theorem seek_step {T : Nat → Bool} {a s : Nat} (hz : ∀ j, a ≤ j → j < 64 * s → T j = false) (h : pk (from_ T a) s = 0) : ∀ j, a ≤ j → j < 64 * (s + 1) → T j = false := by
  intro j h1 h2
  by_cases hj : j < 64 * s
  · exact hz j h1 hj
  · have := pk_none h (j - 64 * s) (by omega)
    rw [show 64 * s + (j - 64 * s) = j from by omega] at this
    simpa [from_, h1] using this
end Go.Proofs.YtnkobcldagajeabDoor
