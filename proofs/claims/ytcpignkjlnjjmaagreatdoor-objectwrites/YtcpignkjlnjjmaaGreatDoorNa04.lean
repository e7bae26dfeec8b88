import Derived.Test.YtcpignkjlnjjmaaGreatDoorNa03
import Derived.Laws.Bits64b
import Derived.Lib.TrailingZeros
namespace Go.Proofs.YtcpignkjlnjjmaaGreatDoor
open Go.RowKit
set_option linter.unusedVariables false
set_option linter.unusedSimpArgs false

theorem sizeB_iff {k n : Int} : sizeB k n = true ↔ knownB k = true ∧ 0 ≤ n ∧ n ≤ mo k ∧ (k ≠ 12 ∨ spineB n = true) := by
  unfold sizeB; simp [and_assoc]
theorem fitsB_iff {k s : Int} : fitsB k s = true ↔ knownB k = true ∧ wd k ≤ s ∧ s ≤ wd k + partW k (mo k) ∧ (k ≠ 12 ∨ spineB (s - 1) = true) := by
  unfold fitsB; simp [and_assoc]
theorem part_not4 {k n : Int} (h : k ≠ 4) : partW k n = n := by unfold partW; rw [if_neg h]
theorem part_4 {n : Int} : partW 4 n = (n + 7) / 8 := rfl
/-- there and back: any kind but a text -/
theorem fits_back {j : Nat} {s y : Int} (hk : knownB j = true) (j1 : 1 ≤ j) (j2 : j ≤ 13) (h4 : j ≠ 4) (s1 : -9223372036854775808 ≤ s) (s2 : s ≤ 9223372036854775807) (hy : wrap64 (s - wd j) = y) : (sizeB j y && (sizeV j y == s)) = fitsB j s := by
  obtain ⟨w1, w2, w3, w4, w5, w6, w7⟩ := wd_mo j1 j2
  have m := w5 h4
  rw [Bool.eq_iff_iff, Bool.and_eq_true, beq_iff_eq, fitsB_iff, part_not4 (by omega)]
  unfold wrap64 at hy
  constructor
  · rintro ⟨h, e⟩
    rw [size_good h, part_not4 (by omega)] at e
    obtain ⟨_, a, b, c⟩ := sizeB_iff.1 h
    refine ⟨hk, by omega, by omega, ?_⟩
    rcases c with c | c
    · exact .inl c
    · by_cases e12 : j = 12
      · have := (w7 e12).1
        rw [show s - 1 = y from by omega]; exact .inr c
      · exact .inl (by omega)
  · rintro ⟨_, a, b, c⟩
    have hys : y = s - wd j := by omega
    have h : sizeB j y = true := by
      refine sizeB_iff.2 ⟨hk, by omega, by omega, ?_⟩
      rcases c with c | c
      · exact .inl c
      · by_cases e12 : j = 12
        · have := (w7 e12).1
          rw [show y = s - 1 from by omega]; exact .inr c
        · exact .inl (by omega)
    refine ⟨h, ?_⟩
    rw [size_good h, part_not4 (by omega)]
    omega
/-- of a text -/
theorem fits_back4 {s y z : Int} (s1 : -9223372036854775808 ≤ s) (s2 : s ≤ 9223372036854775807) (hy : wrap64 (s - 2) = y) (hz : wrap64 (y * 8) = z) : (sizeB 4 z && (sizeV 4 z == s)) = fitsB 4 s := by
  have m : mo 4 = 4096 := rfl
  have m2 : wd 4 = 2 := rfl
  rw [Bool.eq_iff_iff, Bool.and_eq_true, beq_iff_eq, fitsB_iff, part_4, m, m2]
  unfold wrap64 at hy hz
  constructor
  · rintro ⟨h, e⟩
    rw [size_good h, part_4, m2] at e
    obtain ⟨_, a, b, c⟩ := sizeB_iff.1 h
    rw [m] at b
    exact ⟨rfl, by omega, by omega, .inl (by decide)⟩
  · rintro ⟨_, a, b, c⟩
    have hys : y = s - 2 := by omega
    have hzs : z = y * 8 := by omega
    have h : sizeB 4 z = true := sizeB_iff.2 ⟨rfl, by omega, by rw [m]; omega, .inl (by decide)⟩
    refine ⟨h, ?_⟩
    rw [size_good h, part_4, m2]
    omega
theorem and_of {a b c : Bool} (h : (a && b) = c) (ha : a = true) : b = c := by rw [← h, ha]; rfl
theorem and_off {a b c : Bool} (h : (a && b) = c) (ha : a = false) : c = false := by rw [← h, ha]; rfl
set_option maxHeartbeats 800000 in
theorem fits_any (k s : Int) {w : World} (hT : Tab w) (s1 : -9223372036854775808 ≤ s) (s2 : s ≤ 9223372036854775807) :
    Calls Tryz.prog 63 #[.int .i64 k, .int .i64 s] w fun e w' => e = .returned (.bool (fitsB k s)) ∧ w' = w := by
  have HK := hid_mk (known_any k)
  cases hk : knownB k
  · have hb : fitsB k s = false := by unfold fitsB; rw [hk]; rfl
    rw [hb]
    rw [hk] at HK
    clear hb hk s1 s2
    go_enter Tryz.func63, Tryz.ntmps63
    go_wp2_with (go_at_call 72; refine calls_same (HK.out _) ?_)
    go_ret
    exact ⟨rfl, rfl⟩
  · rw [hk] at HK
    obtain ⟨j, rfl, j1, j2⟩ := known_nat hk
    obtain ⟨c1, c2⟩ := hT.2.1 j (by omega)
    have j0 : (0 : Int) ≤ (j : Int) := by omega
    have j14 : (j : Int) < 14 := by omega
    by_cases h4 : j = 4
    · subst h4
      rw [show ((4 : Nat) : Int) = 4 from rfl] at *
      rw [show wd 4 = 2 from rfl] at c1
      obtain ⟨y, hy⟩ : ∃ y, wrap64 (s - 2) = y := ⟨_, rfl⟩
      obtain ⟨z, hz⟩ : ∃ z, wrap64 (y * 8) = z := ⟨_, rfl⟩
      have E := fits_back4 s1 s2 hy hz
      have HS := hid_mk (size_any 4 z hT)
      generalize fitsB 4 s = f at *
      generalize sizeV 4 z = v at *
      clear s1 s2 hk j1 j2 c2
      cases hb : sizeB 4 z
      · rw [hb] at HS
        have := and_off E hb
        subst this
        clear E hb
        go_enter Tryz.func63, Tryz.ntmps63
        go_wp2_with (first | (go_at_call 72; refine calls_same (HK.out _) ?_) | (go_at_call 52; refine calls_same HS.out ?_))
        go_ret
        exact ⟨rfl, rfl⟩
      · rw [hb] at HS
        have := and_of E hb
        subst this
        clear E hb
        go_enter Tryz.func63, Tryz.ntmps63
        go_wp2_with (first | (go_at_call 72; refine calls_same (HK.out _) ?_) | (go_at_call 52; refine calls_same HS.out ?_))
        go_ret
        exact ⟨rfl, rfl⟩
    · have hj4 : ((j : Int) == 4) = false := by simp; omega
      obtain ⟨y, hy⟩ : ∃ y, wrap64 (s - wd j) = y := ⟨_, rfl⟩
      have E := fits_back hk j1 j2 h4 s1 s2 hy
      have HS := hid_mk (size_any j y hT)
      generalize fitsB j s = f at *
      generalize sizeV j y = v at *
      generalize wd j = x at *
      clear s1 s2 hk j1 j2 c2 h4
      cases hb : sizeB j y
      · rw [hb] at HS
        have := and_off E hb
        subst this
        clear E hb
        go_enter Tryz.func63, Tryz.ntmps63
        go_wp2_with (first | (go_at_call 72; refine calls_same (HK.out _) ?_) | (go_at_call 52; refine calls_same HS.out ?_))
        go_ret
        exact ⟨rfl, rfl⟩
      · rw [hb] at HS
        have := and_of E hb
        subst this
        clear E hb
        go_enter Tryz.func63, Tryz.ntmps63
        go_wp2_with (first | (go_at_call 72; refine calls_same (HK.out _) ?_) | (go_at_call 52; refine calls_same HS.out ?_))
        go_ret
        exact ⟨rfl, rfl⟩
end Go.Proofs.YtcpignkjlnjjmaaGreatDoor
namespace Go.Proofs.YtcpignkjlnjjmaaGreatDoor
open Go
set_option linter.unusedVariables false
set_option linter.unusedSimpArgs false

/-- the number whose bits below k are f's -/
def pkN (f : Nat → Bool) : Nat → Nat
  | 0 => 0
  | k + 1 => pkN f k + if f k then 2 ^ k else 0
theorem pkN_lt (f : Nat → Bool) (k : Nat) : pkN f k < 2 ^ k := by
  induction k with
  | zero => simp [pkN]
  | succ k ih => unfold pkN; rw [Nat.pow_succ]; split <;> omega
theorem pkN_bit (f : Nat → Bool) (k j : Nat) : (pkN f k).testBit j = (decide (j < k) && f j) := by
  induction k with
  | zero => simp [pkN]
  | succ k ih =>
    have hl := pkN_lt f k
    unfold pkN
    by_cases hf : f k = true
    · rw [if_pos hf, Nat.add_comm, show 2 ^ k + pkN f k = 2 ^ k * 1 + pkN f k from by omega, Nat.testBit_two_pow_mul_add _ hl, ih]
      by_cases h1 : j < k
      · simp [h1]; omega
      · rw [if_neg h1]
        by_cases h2 : j = k
        · subst h2; simp [hf]
        · have : ¬ j < k + 1 := by omega
          obtain ⟨d, hd⟩ : ∃ d, j - k = d + 1 := ⟨j - k - 1, by omega⟩
          rw [hd, Nat.testBit_succ]
          simp [this]
    · rw [if_neg hf, Nat.add_zero, ih]
      by_cases h2 : j = k
      · subst h2; simp [hf]
      · have : (j < k) ↔ (j < k + 1) := by omega
        simp [this]
/-- the i-th word of a set -/
def pk (S : Nat → Bool) (i : Nat) : Nat := pkN (fun j => S (64 * i + j)) 64
theorem pk_lt (S : Nat → Bool) (i : Nat) : pk S i < 18446744073709551616 := pkN_lt _ 64
theorem pk_bit (S : Nat → Bool) (i j : Nat) : (pk S i).testBit j = (decide (j < 64) && S (64 * i + j)) := pkN_bit _ _ _
theorem pk_ext {S : Nat → Bool} {i x : Nat} (h : ∀ j, x.testBit j = (decide (j < 64) && S (64 * i + j))) : x = pk S i :=
  Nat.eq_of_testBit_eq fun j => by rw [h, pk_bit]
theorem pk_congr {S T : Nat → Bool} {i : Nat} (h : ∀ j, j < 64 → S (64 * i + j) = T (64 * i + j)) : pk S i = pk T i :=
  pk_ext fun j => by rw [pk_bit]; by_cases hj : j < 64 <;> simp [hj, h]
/-- the complement within 64 bits -/
theorem bit_full (j : Nat) : (18446744073709551615 : Nat).testBit j = decide (j < 64) := Nat.testBit_two_pow_sub_one 64 j
theorem bit_not64 (x j : Nat) (h : x < 18446744073709551616) : (18446744073709551615 - x).testBit j = (decide (j < 64) && !x.testBit j) := by
  have := Nat.testBit_two_pow_sub_succ (n := 64) (x := x) h j
  rw [show 2 ^ 64 - (x + 1) = 18446744073709551615 - x from by omega] at this
  exact this
theorem bits_andNot_u64_nat (a b : Nat) (ha : a < 18446744073709551616) (hb : b < 18446744073709551616) :
    bits .andNot .u64 (a : Int) (b : Int) = ((a &&& (18446744073709551615 - b) : Nat) : Int) := by
  have hx : a &&& (18446744073709551615 - b) < 2 ^ 64 := Nat.and_lt_two_pow _ (by omega)
  have h1 : (BitVec.ofInt 64 (a : Int)).toNat = a := by
    rw [BitVec.ofInt_natCast, BitVec.toNat_ofNat]; exact Nat.mod_eq_of_lt (by omega)
  have h2 : (BitVec.ofInt 64 (b : Int)).toNat = b := by
    rw [BitVec.ofInt_natCast, BitVec.toNat_ofNat]; exact Nat.mod_eq_of_lt (by omega)
  show IntKind.u64.wrap ((BitVec.ofInt 64 (a : Int) &&& ~~~ BitVec.ofInt 64 (b : Int)).toNat : Int) = _
  rw [BitVec.toNat_and, BitVec.toNat_not, h1, h2, IntKind.wrap_u64]
  rw [show 2 ^ 64 - 1 - b = 18446744073709551615 - b from by omega]
  omega

def upd (S : Nat → Bool) (i : Nat) (b : Bool) : Nat → Bool := fun j => if j = i then b else S j
theorem pk_upd_other (S : Nat → Bool) (i k : Nat) (b : Bool) (h : k ≠ i / 64) : pk (upd S i b) k = pk S k :=
  pk_congr fun j hj => by unfold upd; rw [if_neg (by omega)]
theorem pk_set (S : Nat → Bool) (i : Nat) : pk S (i / 64) ||| 2 ^ (i % 64) = pk (upd S i true) (i / 64) :=
  pk_ext fun j => by
    rw [Nat.testBit_or, pk_bit, Nat.testBit_two_pow]
    unfold upd
    by_cases h : 64 * (i / 64) + j = i
    · have hj : i % 64 = j := by omega
      have hj' : j < 64 := by omega
      simp [h, hj, hj']
    · rw [if_neg h]
      by_cases hj : i % 64 = j
      · omega
      · simp [hj]
theorem pk_clear (S : Nat → Bool) (i : Nat) : pk S (i / 64) &&& (18446744073709551615 - 2 ^ (i % 64)) = pk (upd S i false) (i / 64) :=
  pk_ext fun j => by
    have hp : 2 ^ (i % 64) < 18446744073709551616 := Nat.pow_lt_pow_right (a := 2) (by omega) (show i % 64 < 64 by omega)
    rw [Nat.testBit_and, pk_bit, bit_not64 _ _ hp, Nat.testBit_two_pow]
    unfold upd
    by_cases h : 64 * (i / 64) + j = i
    · have hj : i % 64 = j := by omega
      simp [h, hj]
    · rw [if_neg h]
      by_cases hj : i % 64 = j
      · omega
      · by_cases h6 : j < 64 <;> simp [hj, h6]
theorem pk_get (S : Nat → Bool) (i : Nat) : pk S (i / 64) &&& 2 ^ (i % 64) = if S i then 2 ^ (i % 64) else 0 := by
  apply Nat.eq_of_testBit_eq
  intro j
  rw [Nat.testBit_and, pk_bit, Nat.testBit_two_pow]
  by_cases hj : i % 64 = j
  · have e : 64 * (i / 64) + j = i := by omega
    have h6 : j < 64 := by omega
    cases hs : S i <;> simp [e, hj, h6, hs]
  · cases hs : S i <;> simp [hj, Nat.testBit_two_pow]

/-- the bits from lo on below hi -/
def msk (lo hi : Nat) : Nat := pkN (fun j => decide (lo ≤ j) && decide (j < hi)) 64
theorem msk_lt (lo hi : Nat) : msk lo hi < 18446744073709551616 := pkN_lt _ 64
theorem msk_bit (lo hi j : Nat) : (msk lo hi).testBit j = (decide (j < 64) && (decide (lo ≤ j) && decide (j < hi))) := pkN_bit _ _ _
/-- all bits, moved up -/
def up (lo : Nat) : Nat := if lo < 64 then 18446744073709551616 - 2 ^ lo else 0
theorem up_lt (lo : Nat) : up lo < 18446744073709551616 := by
  unfold up; have := Nat.two_pow_pos lo; split <;> omega
theorem up_bit (lo j : Nat) : (up lo).testBit j = (decide (j < 64) && decide (lo ≤ j)) := by
  unfold up
  by_cases h : lo < 64
  · rw [if_pos h]
    have hp : 2 ^ lo < 2 ^ 64 := Nat.pow_lt_pow_right (a := 2) (by omega) h
    have h1 := Nat.two_pow_pos lo
    have := bit_not64 (2 ^ lo - 1) j (by omega)
    rw [show 18446744073709551615 - (2 ^ lo - 1) = 18446744073709551616 - 2 ^ lo from by omega, Nat.testBit_two_pow_sub_one] at this
    rw [this]
    by_cases hj : j < lo
    · simp [hj]
    · have : lo ≤ j := by omega
      simp [this, hj]
  · rw [if_neg h]
    by_cases hj : j < 64
    · have : ¬ lo ≤ j := by omega
      simp [this]
    · simp [hj]
theorem up_msk (lo hi : Nat) : up lo &&& (18446744073709551615 - up hi) = msk lo hi :=
  Nat.eq_of_testBit_eq fun j => by
    rw [Nat.testBit_and, up_bit, bit_not64 _ _ (up_lt _), up_bit, msk_bit]
    by_cases h : j < 64
    · by_cases h1 : lo ≤ j <;> by_cases h2 : hi ≤ j <;> simp [h, h1, h2] <;> omega
    · simp [h]

def fill (S : Nat → Bool) (a b : Nat) (x : Bool) : Nat → Bool := fun j => if a ≤ j ∧ j < b then x else S j
theorem fill_nil (S : Nat → Bool) (a b : Nat) (x : Bool) (h : b ≤ a) : fill S a b x = S := by
  funext j; unfold fill; rw [if_neg (by omega)]
/-- the words behind one more piece: start a multiple of 64 -/
theorem pk_fill_other (S : Nat → Bool) (a t k s : Nat) (x : Bool) (h : k ≠ s) : pk (fill S a (min (64 * s + 64) t) x) k = pk (fill S a (min (64 * s) t) x) k := by
  refine pk_congr fun j hj => ?_
  unfold fill
  by_cases h1 : k < s
  · have e : (a ≤ 64 * k + j ∧ 64 * k + j < min (64 * s + 64) t) ↔ (a ≤ 64 * k + j ∧ 64 * k + j < min (64 * s) t) := by omega
    simp only [e]
  · rw [if_neg (by omega), if_neg (by omega)]
theorem pk_fill_set (S : Nat → Bool) (a t s : Nat) : pk (fill S a (min (64 * s) t) true) s ||| msk (a - 64 * s) (min (t - 64 * s) 64) = pk (fill S a (min (64 * s + 64) t) true) s :=
  pk_ext fun j => by
    rw [Nat.testBit_or, pk_bit, msk_bit]
    unfold fill
    by_cases h6 : j < 64
    · rw [if_neg (by omega)]
      by_cases h : a ≤ 64 * s + j ∧ 64 * s + j < min (64 * s + 64) t
      · rw [if_pos h]
        have h1 : a - 64 * s ≤ j := by omega
        have h2 : j < min (t - 64 * s) 64 := by omega
        simp [h6, h1, h2]
      · rw [if_neg h]
        have : ¬ (a - 64 * s ≤ j ∧ j < min (t - 64 * s) 64) := by omega
        have : (decide (a - 64 * s ≤ j) && decide (j < min (t - 64 * s) 64)) = false := by
          rw [← Bool.decide_and]; exact decide_eq_false this
        rw [this]; simp [h6]
    · simp [h6]
theorem pk_fill_clear (S : Nat → Bool) (a t s : Nat) : pk (fill S a (min (64 * s) t) false) s &&& (18446744073709551615 - msk (a - 64 * s) (min (t - 64 * s) 64)) = pk (fill S a (min (64 * s + 64) t) false) s :=
  pk_ext fun j => by
    rw [Nat.testBit_and, pk_bit, bit_not64 _ _ (msk_lt _ _), msk_bit]
    unfold fill
    by_cases h6 : j < 64
    · rw [if_neg (by omega)]
      by_cases h : a ≤ 64 * s + j ∧ 64 * s + j < min (64 * s + 64) t
      · rw [if_pos h]
        have h1 : a - 64 * s ≤ j := by omega
        have h2 : j < min (t - 64 * s) 64 := by omega
        simp [h6, h1, h2]
      · rw [if_neg h]
        have : ¬ (a - 64 * s ≤ j ∧ j < min (t - 64 * s) 64) := by omega
        have : (decide (a - 64 * s ≤ j) && decide (j < min (t - 64 * s) 64)) = false := by
          rw [← Bool.decide_and]; exact decide_eq_false this
        rw [this]; simp [h6]
    · simp [h6]
end Go.Proofs.YtcpignkjlnjjmaaGreatDoor
namespace Go.Proofs.YtcpignkjlnjjmaaGreatDoor
open Go
set_option linter.unusedVariables false
set_option linter.unusedSimpArgs false

/-- how many are in below k -/
def cnt (S : Nat → Bool) : Nat → Nat
  | 0 => 0
  | k + 1 => cnt S k + if S k then 1 else 0
theorem cnt_le (S : Nat → Bool) (k : Nat) : cnt S k ≤ k := by
  induction k with
  | zero => simp [cnt]
  | succ k ih => unfold cnt; split <;> omega
theorem cnt_congr {S T : Nat → Bool} {k : Nat} (h : ∀ j, j < k → S j = T j) : cnt S k = cnt T k := by
  induction k with
  | zero => rfl
  | succ k ih => unfold cnt; rw [ih fun j hj => h j (by omega), h k (by omega)]
theorem cnt_add (S : Nat → Bool) (m k : Nat) : cnt S (m + k) = cnt S m + cnt (fun j => S (m + j)) k := by
  induction k with
  | zero => simp [cnt]
  | succ k ih =>
    show cnt S (m + k) + (if S (m + k) then 1 else 0) = cnt S m + (cnt (fun j => S (m + j)) k + if S (m + k) then 1 else 0)
    rw [ih]; omega
theorem cnt_mono (S : Nat → Bool) (a b : Nat) (h : a ≤ b) : cnt S a ≤ cnt S b := by
  obtain ⟨d, rfl⟩ : ∃ d, b = a + d := ⟨b - a, by omega⟩
  rw [cnt_add]; omega
theorem cnt_zero {S : Nat → Bool} {k : Nat} (h : ∀ j, j < k → S j = false) : cnt S k = 0 := by
  induction k with
  | zero => rfl
  | succ k ih => unfold cnt; rw [ih fun j hj => h j (by omega), h k (by omega)]; simp
theorem cnt_none {S : Nat → Bool} {k : Nat} (h : cnt S k = 0) : ∀ j, j < k → S j = false := by
  induction k with
  | zero => intro j hj; omega
  | succ k ih =>
    unfold cnt at h
    intro j hj
    by_cases e : j = k
    · subst e; by_cases hs : S j = true
      · rw [if_pos hs] at h; omega
      · simpa using hs
    · exact ih (by omega) j (by omega)
theorem cnt_full {S : Nat → Bool} {k : Nat} (h : ∀ j, j < k → S j = true) : cnt S k = k := by
  induction k with
  | zero => rfl
  | succ k ih => unfold cnt; rw [ih fun j hj => h j (by omega), h k (by omega)]; simp
/-- how many are in from a on below b -/
def cntR (S : Nat → Bool) (a b : Nat) : Nat := cnt (fun j => decide (a ≤ j) && S j) b
theorem cntR_le (S : Nat → Bool) (a b : Nat) : cntR S a b ≤ b := cnt_le _ _
theorem cntR_nil (S : Nat → Bool) (a b : Nat) (h : b ≤ a) : cntR S a b = 0 :=
  cnt_zero fun j hj => by have : ¬ a ≤ j := by omega
                          simp [this]
theorem cntR_zero (S : Nat → Bool) (b : Nat) : cntR S 0 b = cnt S b := cnt_congr fun j _ => by simp
theorem cntR_le' (S : Nat → Bool) (a b : Nat) : cntR S a b ≤ b - a := by
  by_cases h : b ≤ a
  · rw [cntR_nil _ _ _ h]; omega
  · obtain ⟨d, rfl⟩ : ∃ d, b = a + d := ⟨b - a, by omega⟩
    unfold cntR
    rw [cnt_add]
    have h0 : cnt (fun j => decide (a ≤ j) && S j) a = 0 := cnt_zero fun j hj => by
      have : ¬ a ≤ j := by omega
      simp [this]
    have := cnt_le (fun j => decide (a ≤ a + j) && S (a + j)) d
    omega
theorem cntR_split (S : Nat → Bool) (a b : Nat) (h : a ≤ b) : cnt S b = cnt S a + cntR S a b := by
  obtain ⟨d, rfl⟩ : ∃ d, b = a + d := ⟨b - a, by omega⟩
  unfold cntR
  rw [cnt_add, cnt_add]
  rw [cnt_zero (k := a) (S := fun j => decide (a ≤ j) && S j) fun j hj => by have : ¬ a ≤ j := by omega
                                                                             simp [this]]
  rw [Nat.zero_add]
  congr 1
  exact cnt_congr fun j _ => by simp
/-- the ones among 64 bits -/
def pop (x : Nat) : Nat := cnt x.testBit 64
theorem pop_le (x : Nat) : pop x ≤ 64 := cnt_le _ _
theorem cnt_cut (F : Nat → Bool) (t m : Nat) : cnt (fun j => F j && decide (j < t)) m = cnt F (min m t) := by
  induction m with
  | zero => simp [cnt]
  | succ m ih =>
    show cnt (fun j => F j && decide (j < t)) m + (if (F m && decide (m < t)) then 1 else 0) = _
    rw [ih]
    by_cases h : m < t
    · rw [show min (m + 1) t = m + 1 from by omega, show min m t = m from by omega]
      show _ = cnt F m + _
      simp [h]
    · rw [show min (m + 1) t = min m t from by omega]
      simp [h]
theorem piece_pop (S : Nat → Bool) (a t s : Nat) : cntR S a (min (64 * s) t) + pop (pk S s &&& msk (a - 64 * s) (min (t - 64 * s) 64)) = cntR S a (min (64 * s + 64) t) := by
  unfold cntR pop
  rw [← cnt_cut, ← cnt_cut, cnt_add]
  congr 1
  refine cnt_congr fun j hj => ?_
  rw [Nat.testBit_and, pk_bit, msk_bit]
  by_cases h1 : a ≤ 64 * s + j
  · have h1' : a - 64 * s ≤ j := by omega
    by_cases h2 : 64 * s + j < t
    · have h2' : j < min (t - 64 * s) 64 := by omega
      simp only [hj, h1, h1', h2, h2', decide_true, Bool.true_and, Bool.and_true]
    · have h2' : ¬ j < min (t - 64 * s) 64 := by omega
      simp only [hj, h1, h1', h2, h2', decide_true, decide_false, Bool.true_and, Bool.and_true, Bool.and_false]
  · have h1' : ¬ a - 64 * s ≤ j := by omega
    simp only [hj, h1, h1', decide_true, decide_false, Bool.true_and, Bool.false_and, Bool.and_false]

/-- the least from 'k' on below n that is P; n: there is none -/
def nx (P : Nat → Bool) (n k : Nat) : Nat := if k < n then (if P k then k else nx P n (k + 1)) else n
termination_by n - k
theorem nx_end (P : Nat → Bool) (n k : Nat) (h : n ≤ k) : nx P n k = n := by rw [nx, if_neg (by omega)]
theorem nx_le (P : Nat → Bool) (n k : Nat) : nx P n k ≤ n := by
  by_cases h : k < n
  · rw [nx, if_pos h]; split
    · omega
    · exact nx_le P n (k + 1)
  · rw [nx, if_neg h]; omega
termination_by n - k
theorem nx_ge (P : Nat → Bool) (n k : Nat) (h : k ≤ n) : k ≤ nx P n k := by
  by_cases h : k < n
  · rw [nx, if_pos h]; split
    · omega
    · have := nx_ge P n (k + 1) (by omega); omega
  · rw [nx, if_neg h]; omega
termination_by n - k
theorem nx_in (P : Nat → Bool) (n k : Nat) (h : nx P n k < n) : P (nx P n k) = true := by
  by_cases h' : k < n
  · rw [nx, if_pos h'] at h ⊢
    by_cases hp : P k = true
    · rw [if_pos hp]; exact hp
    · rw [if_neg hp] at h ⊢; exact nx_in P n (k + 1) h
  · rw [nx, if_neg h'] at h; omega
termination_by n - k
theorem nx_out (P : Nat → Bool) (n k : Nat) : ∀ j, k ≤ j → j < nx P n k → P j = false := by
  intro j h1 h2
  by_cases h' : k < n
  · rw [nx, if_pos h'] at h2
    by_cases hp : P k = true
    · rw [if_pos hp] at h2; omega
    · rw [if_neg hp] at h2
      by_cases e : j = k
      · subst e; simpa using hp
      · exact nx_out P n (k + 1) j (by omega) h2
  · rw [nx, if_neg h'] at h2; omega
termination_by n - k
theorem nx_eq (P : Nat → Bool) (n k r : Nat) (h1 : k ≤ r) (h2 : r ≤ n) (h3 : ∀ j, k ≤ j → j < r → P j = false) (h4 : r < n → P r = true) : nx P n k = r := by
  by_cases h' : k < n
  · rw [nx, if_pos h']
    by_cases hp : P k = true
    · rw [if_pos hp]
      by_cases e : k = r
      · exact e
      · rw [h3 k (by omega) (by omega)] at hp; cases hp
    · rw [if_neg hp]
      have : k ≠ r := fun e => by subst e; exact hp (h4 h')
      exact nx_eq P n (k + 1) r (by omega) h2 (fun j a b => h3 j (by omega) b) h4
  · rw [nx, if_neg h']; omega
termination_by n - k
theorem nx_congr {P Q : Nat → Bool} {n k : Nat} (h : ∀ j, k ≤ j → j < n → P j = Q j) : nx P n k = nx Q n k := by
  by_cases hk : k ≤ n
  · refine nx_eq P n k _ (nx_ge Q n k hk) (nx_le Q n k) (fun j a b => ?_) (fun a => ?_)
    · have := nx_le Q n k
      rw [h j a (by omega)]; exact nx_out Q n k j a b
    · rw [h _ (nx_ge Q n k hk) a]; exact nx_in Q n k a
  · rw [nx_end _ _ _ (by omega), nx_end _ _ _ (by omega)]
/-- as the program tells it -/
def nxr (P : Nat → Bool) (n k : Nat) : Int := if nx P n k < n then (nx P n k : Int) else -1
theorem nxr_ge (P : Nat → Bool) (n k : Nat) : -1 ≤ nxr P n k := by unfold nxr; split <;> omega
theorem nxr_lt (P : Nat → Bool) (n k : Nat) : nxr P n k < n := by unfold nxr; split <;> omega

/-! the least bit of a word -/
theorem ctz_spec (x : Nat) (h0 : x ≠ 0) (h : x < 18446744073709551616) : Lib.ctz 64 x < 64 ∧ x.testBit (Lib.ctz 64 x) = true ∧ ∀ j, j < Lib.ctz 64 x → x.testBit j = false := by
  obtain ⟨m, hm, hk⟩ := Lib.ctzFrom_spec 64 x (by omega) h
  have e : Lib.ctz 64 x = Lib.ctzFrom 64 x := by simp [Lib.ctz, h0]
  rw [e]
  refine ⟨hk, ?_, fun j hj => ?_⟩
  · rw [congrArg (fun y => Nat.testBit y (Lib.ctzFrom 64 x)) hm]
    show (2 ^ Lib.ctzFrom 64 x * (2 * m + 1)).testBit (Lib.ctzFrom 64 x) = true
    rw [Nat.testBit_two_pow_mul]
    simp
  · rw [congrArg (fun y => Nat.testBit y j) hm]
    show (2 ^ Lib.ctzFrom 64 x * (2 * m + 1)).testBit j = false
    rw [Nat.testBit_two_pow_mul]
    have : ¬ Lib.ctzFrom 64 x ≤ j := by omega
    simp [this]
theorem pk_none {T : Nat → Bool} {s : Nat} (h : pk T s = 0) : ∀ j, j < 64 → T (64 * s + j) = false := by
  intro j hj
  have := pk_bit T s j
  rw [h] at this
  simpa [hj] using this.symm
theorem pk_first {T : Nat → Bool} {s : Nat} (h : pk T s ≠ 0) : Lib.ctz 64 (pk T s) < 64 ∧ T (64 * s + Lib.ctz 64 (pk T s)) = true ∧ ∀ j, j < Lib.ctz 64 (pk T s) → T (64 * s + j) = false := by
  obtain ⟨h1, h2, h3⟩ := ctz_spec _ h (pk_lt T s)
  refine ⟨h1, ?_, fun j hj => ?_⟩
  · rw [pk_bit] at h2; simpa [h1] using h2
  · have := h3 j hj
    rw [pk_bit] at this
    have hj' : j < 64 := by omega
    simpa [hj'] using this
def from_ (T : Nat → Bool) (a : Nat) : Nat → Bool := fun j => decide (a ≤ j) && T j
theorem pk_head (T : Nat → Bool) (a : Nat) : pk T (a / 64) &&& (18446744073709551615 - (2 ^ (a % 64) - 1)) = pk (from_ T a) (a / 64) :=
  pk_ext fun j => by
    have hp : 2 ^ (a % 64) < 18446744073709551616 := Nat.pow_lt_pow_right (a := 2) (by omega) (show a % 64 < 64 by omega)
    rw [Nat.testBit_and, pk_bit, bit_not64 _ _ (by omega), Nat.testBit_two_pow_sub_one]
    unfold from_
    by_cases h6 : j < 64
    · by_cases h : j < a % 64
      · have : ¬ a ≤ 64 * (a / 64) + j := by omega
        simp [h6, h, this]
      · have : a ≤ 64 * (a / 64) + j := by omega
        simp [h6, h, this]
    · simp [h6]
theorem pk_tail (T : Nat → Bool) (a s : Nat) (h : a / 64 < s) : pk (from_ T a) s = pk T s :=
  pk_congr fun j hj => by
    unfold from_
    have : a ≤ 64 * s + j := by omega
    simp [this]
theorem pk_flip0 (S : Nat → Bool) (s : Nat) : pk S s ^^^ 0 = pk S s := Nat.xor_zero _
theorem pk_flip1 (S : Nat → Bool) (s : Nat) : pk S s ^^^ 18446744073709551615 = pk (fun j => !S j) s :=
  pk_ext fun j => by
    rw [Nat.testBit_xor, pk_bit, bit_full]
    by_cases h6 : j < 64 <;> simp [h6]
/-- what seek comes to -/
theorem seek_found {T : Nat → Bool} {n a s : Nat} (ha : a < n) (hs : a / 64 ≤ s) (hz : ∀ j, a ≤ j → j < 64 * s → T j = false) (h : pk (from_ T a) s ≠ 0) :
    min (s * 64 + Lib.ctz 64 (pk (from_ T a) s)) n = nx T n a := by
  obtain ⟨h1, h2, h3⟩ := pk_first h
  generalize Lib.ctz 64 (pk (from_ T a) s) = c at *
  unfold from_ at h2 h3
  simp only [Bool.and_eq_true, decide_eq_true_eq] at h2
  refine (nx_eq T n a _ (by omega) (by omega) (fun j h4 h5 => ?_) (fun h6 => ?_)).symm
  · by_cases hj : j < 64 * s
    · exact hz j h4 hj
    · have := h3 (j - 64 * s) (by omega)
      rw [show 64 * s + (j - 64 * s) = j from by omega] at this
      simpa [h4] using this
  · rw [show min (s * 64 + c) n = 64 * s + c from by omega]; exact h2.2
theorem seek_none {T : Nat → Bool} {n a s : Nat} (hz : ∀ j, a ≤ j → j < 64 * s → T j = false) (hs : n ≤ 64 * s) : nx T n a = n := by
  by_cases h : a ≤ n
  · exact nx_eq T n a n h (Nat.le_refl _) (fun j a b => hz j a (by omega)) (fun h => by omega)
  · exact nx_end _ _ _ (by omega)
theorem seek_step {T : Nat → Bool} {a s : Nat} (hz : ∀ j, a ≤ j → j < 64 * s → T j = false) (h : pk (from_ T a) s = 0) : ∀ j, a ≤ j → j < 64 * (s + 1) → T j = false := by
  intro j h1 h2
  by_cases hj : j < 64 * s
  · exact hz j h1 hj
  · have := pk_none h (j - 64 * s) (by omega)
    rw [show 64 * s + (j - 64 * s) = j from by omega] at this
    simpa [from_, h1] using this
end Go.Proofs.YtcpignkjlnjjmaaGreatDoor
