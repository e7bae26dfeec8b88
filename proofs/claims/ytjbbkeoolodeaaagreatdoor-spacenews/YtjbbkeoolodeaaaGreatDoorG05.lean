import Derived.Test.YtjbbkeoolodeaaaGreatDoorG04
import Derived.Laws.Bits64b
import Derived.Lib.TrailingZeros
import Derived.Test.YtjbbkeoolodeaaaGreatDoorG00
import Derived.Deep.OwnRows
import Derived.Shelf.Spec.TrailingZeros
import Derived.Laws.Bits128
namespace Go.Proofs.YtjbbkeoolodeaaaGreatDoor
open Go.RowKit
set_option linter.unusedVariables false
set_option linter.unusedSimpArgs false

theorem size_bad {k n : Int} (h : sizeB k n = false) : sizeV k n = 0 := by unfold sizeV; rw [h]; rfl
theorem size_good {k n : Int} (h : sizeB k n = true) : sizeV k n = wd k + partW k n := by unfold sizeV; rw [h]; rfl
set_option maxHeartbeats 800000 in
theorem size_any (k n : Int) {w : World} (hT : Tab w) :
    Calls Tryz.prog 92 #[.int .i64 k, .int .i64 n] w fun e w' => e = .returned (.tuple #[.int .i64 (sizeV k n), .bool (sizeB k n)]) ∧ w' = w := by
  have HK := hid_mk (known_any k)
  cases hk : knownB k
  · have hb : sizeB k n = false := by unfold sizeB; rw [hk]; rfl
    rw [size_bad hb, hb]
    rw [hk] at HK
    clear hb hk
    go_enter Tryz.func92, Tryz.ntmps92
    go_wp2_with (go_at_call 91; refine calls_same (HK.out _) ?_)
    go_ret2
    exact ⟨rfl, rfl⟩
  · rw [hk] at HK
    obtain ⟨j, rfl, j1, j2⟩ := known_nat hk
    obtain ⟨c1, c2⟩ := hT.2.1 j (by omega)
    have W := hid_mk (wd_mo j1 j2)
    by_cases hn : n < 0
    · have hb : sizeB j n = false := by unfold sizeB; rw [hk]; simp; omega
      rw [size_bad hb, hb]
      clear hb hk
      go_enter Tryz.func92, Tryz.ntmps92
      go_wp2_with (go_at_call 91; refine calls_same (HK.out _) ?_)
      go_ret2
      exact ⟨rfl, rfl⟩
    have n0 : 0 ≤ n := by omega
    have j0 : (0 : Int) ≤ (j : Int) := by omega
    have j14 : (j : Int) < 14 := by omega
    by_cases hm : mo j < n
    · have hb : sizeB j n = false := by unfold sizeB; rw [hk]; simp; omega
      rw [size_bad hb, hb]
      clear hb hk hn
      generalize mo j = m at *
      go_enter Tryz.func92, Tryz.ntmps92
      go_wp2_with (go_at_call 91; refine calls_same (HK.out _) ?_)
      go_ret2
      exact ⟨rfl, rfl⟩
    have hm' : n ≤ mo j := by omega
    have hp : ∀ b, (decide ((0 : Int) ≤ n) && decide (n ≤ mo j) && b) = b := by intro b; simp [n0, hm']
    by_cases h12 : j = 12
    · subst h12
      obtain ⟨q, rfl⟩ : ∃ q : Nat, n = q := ⟨n.toNat, by omega⟩
      have hq : q ≤ 512 := by have := (W.out.2.2.2.2.2.2 rfl).2; omega
      have HD := hid_mk (doubled_any q hq)
      have hsb : sizeB 12 q = spineB q := by
        unfold sizeB; rw [show knownB 12 = true from rfl, Bool.true_and, show ((12 : Int) != 12) = false from rfl, Bool.false_or]
        exact hp _
      have hwd := (W.out.2.2.2.2.2.2 rfl).1
      have hq' : (q : Int) ≤ 512 := by omega
      cases hs : spineB q
      · rw [hs] at HD
        have hsb' := hsb.trans hs
        rw [show ((12 : Nat) : Int) = 12 from rfl] at *
        rw [size_bad hsb', hsb']
        clear hk hn hm hp hsb hs hsb'
        generalize mo 12 = m at *
        go_enter Tryz.func92, Tryz.ntmps92
        go_wp2_with (first | (go_at_call 91; refine calls_same (HK.out _) ?_) | (go_at_call 130; refine calls_same (HD.out _) ?_))
        go_ret2
        exact ⟨rfl, rfl⟩
      · rw [hs] at HD
        have hsb' := hsb.trans hs
        rw [show ((12 : Nat) : Int) = 12 from rfl] at *
        rw [size_good hsb', hsb', hwd, show partW 12 q = q from rfl]
        rw [hwd] at c1
        clear hk hn hm hp hsb hs hsb' hwd
        generalize mo 12 = m at *
        go_enter Tryz.func92, Tryz.ntmps92
        go_wp2_with (first | (go_at_call 91; refine calls_same (HK.out _) ?_) | (go_at_call 130; refine calls_same (HD.out _) ?_))
        go_ret2
        exact ⟨rfl, rfl⟩
    have hj12 : ((j : Int) != 12) = true := by simp; omega
    have hj12' : ((j : Int) == 12) = false := by simp; omega
    have hsb : sizeB j n = true := by
      unfold sizeB; rw [hk, Bool.true_and, hj12, Bool.true_or]
      exact hp _
    rw [size_good hsb, hsb]
    by_cases h4 : j = 4
    · subst h4
      obtain ⟨w4, m4⟩ := W.out.2.2.2.2.2.1 rfl
      rw [show ((4 : Nat) : Int) = 4 from rfl] at *
      rw [w4] at c1 ⊢
      rw [show partW 4 n = (n + 7) / 8 from rfl]
      have b3 : n ≤ 4096 := by omega
      clear hk hn hm hp hsb w4 m4
      generalize mo 4 = m at *
      go_enter Tryz.func92, Tryz.ntmps92
      go_wp2_with (first | (go_at_call 91; refine calls_same (HK.out _) ?_))
      go_ret2
      exact ⟨ret_ib (k := .i64) (a := 2 + (n + 8 - 1) / 8) (by omega) rfl, rfl⟩
    · have hj4 : ((j : Int) == 4) = false := by simp; omega
      rw [show partW j n = n from by unfold partW; rw [if_neg (by omega)]]
      obtain ⟨w1, w2, w3, w4, w5, w6⟩ := W.out
      have b3 := w5 h4
      have b4 : n ≤ 1023 := by omega
      clear hk hn hm hp hsb w6 w5 w4 w3 b3
      generalize mo j = m at *
      generalize wd j = x at *
      go_enter Tryz.func92, Tryz.ntmps92
      go_wp2_with (first | (go_at_call 91; refine calls_same (HK.out _) ?_))
      go_ret2
      exact ⟨rfl, rfl⟩
end Go.Proofs.YtjbbkeoolodeaaaGreatDoor
namespace Go.Proofs.YtjbbkeoolodeaaaGreatDoor
open Go.RowKit
set_option linter.unusedVariables false
set_option linter.unusedSimpArgs false

theorem sizeB_iff {k n : Int} : sizeB k n = true ↔ knownB k = true ∧ 0 ≤ n ∧ n ≤ mo k ∧ (k ≠ 12 ∨ spineB n = true) := by
  unfold sizeB; simp [and_assoc]
theorem fitsB_iff {k s : Int} : fitsB k s = true ↔ knownB k = true ∧ wd k ≤ s ∧ s ≤ wd k + partW k (mo k) ∧ (k ≠ 12 ∨ spineB (s - 1) = true) := by
  unfold fitsB; simp [and_assoc]
theorem part_not4 {k n : Int} (h : k ≠ 4) : partW k n = n := by unfold partW; rw [if_neg h]
theorem part_4 {n : Int} : partW 4 n = (n + 7) / 8 := rfl
/-- there and back: any kind but a text -/
theorem fits_back {j : Nat} {s y : Int} (hk : knownB j = true) (j1 : 1 ≤ j) (j2 : j ≤ 13) (h4 : j ≠ 4) (s1 : -9223372036854775808 ≤ s) (s2 : s ≤ 9223372036854775807) (hy : wrap64 (s - wd j) = y) : (sizeB j y && (sizeV j y == s)) = fitsB j s := by
  obtain ⟨w1, w2, w3, w4, w5, w6, w7⟩ := wd_mo j1 j2
  have m := w5 h4
  rw [Bool.eq_iff_iff, Bool.and_eq_true, beq_iff_eq, fitsB_iff, part_not4 (by omega)]
  unfold wrap64 at hy
  constructor
  · rintro ⟨h, e⟩
    rw [size_good h, part_not4 (by omega)] at e
    obtain ⟨_, a, b, c⟩ := sizeB_iff.1 h
    refine ⟨hk, by omega, by omega, ?_⟩
    rcases c with c | c
    · exact .inl c
    · by_cases e12 : j = 12
      · have := (w7 e12).1
        rw [show s - 1 = y from by omega]; exact .inr c
      · exact .inl (by omega)
  · rintro ⟨_, a, b, c⟩
    have hys : y = s - wd j := by omega
    have h : sizeB j y = true := by
      refine sizeB_iff.2 ⟨hk, by omega, by omega, ?_⟩
      rcases c with c | c
      · exact .inl c
      · by_cases e12 : j = 12
        · have := (w7 e12).1
          rw [show y = s - 1 from by omega]; exact .inr c
        · exact .inl (by omega)
    refine ⟨h, ?_⟩
    rw [size_good h, part_not4 (by omega)]
    omega
/-- of a text -/
theorem fits_back4 {s y z : Int} (s1 : -9223372036854775808 ≤ s) (s2 : s ≤ 9223372036854775807) (hy : wrap64 (s - 2) = y) (hz : wrap64 (y * 8) = z) : (sizeB 4 z && (sizeV 4 z == s)) = fitsB 4 s := by
  have m : mo 4 = 4096 := rfl
  have m2 : wd 4 = 2 := rfl
  rw [Bool.eq_iff_iff, Bool.and_eq_true, beq_iff_eq, fitsB_iff, part_4, m, m2]
  unfold wrap64 at hy hz
  constructor
  · rintro ⟨h, e⟩
    rw [size_good h, part_4, m2] at e
    obtain ⟨_, a, b, c⟩ := sizeB_iff.1 h
    rw [m] at b
    exact ⟨rfl, by omega, by omega, .inl (by decide)⟩
  · rintro ⟨_, a, b, c⟩
    have hys : y = s - 2 := by omega
    have hzs : z = y * 8 := by omega
    have h : sizeB 4 z = true := sizeB_iff.2 ⟨rfl, by omega, by rw [m]; omega, .inl (by decide)⟩
    refine ⟨h, ?_⟩
    rw [size_good h, part_4, m2]
    omega
theorem and_of {a b c : Bool} (h : (a && b) = c) (ha : a = true) : b = c := by rw [← h, ha]; rfl
theorem and_off {a b c : Bool} (h : (a && b) = c) (ha : a = false) : c = false := by rw [← h, ha]; rfl
set_option maxHeartbeats 800000 in
theorem fits_any (k s : Int) {w : World} (hT : Tab w) (s1 : -9223372036854775808 ≤ s) (s2 : s ≤ 9223372036854775807) :
    Calls Tryz.prog 46 #[.int .i64 k, .int .i64 s] w fun e w' => e = .returned (.bool (fitsB k s)) ∧ w' = w := by
  have HK := hid_mk (known_any k)
  cases hk : knownB k
  · have hb : fitsB k s = false := by unfold fitsB; rw [hk]; rfl
    rw [hb]
    rw [hk] at HK
    clear hb hk s1 s2
    go_enter Tryz.func46, Tryz.ntmps46
    go_wp2_with (go_at_call 91; refine calls_same (HK.out _) ?_)
    go_ret
    exact ⟨rfl, rfl⟩
  · rw [hk] at HK
    obtain ⟨j, rfl, j1, j2⟩ := known_nat hk
    obtain ⟨c1, c2⟩ := hT.2.1 j (by omega)
    have j0 : (0 : Int) ≤ (j : Int) := by omega
    have j14 : (j : Int) < 14 := by omega
    by_cases h4 : j = 4
    · subst h4
      rw [show ((4 : Nat) : Int) = 4 from rfl] at *
      rw [show wd 4 = 2 from rfl] at c1
      obtain ⟨y, hy⟩ : ∃ y, wrap64 (s - 2) = y := ⟨_, rfl⟩
      obtain ⟨z, hz⟩ : ∃ z, wrap64 (y * 8) = z := ⟨_, rfl⟩
      have E := fits_back4 s1 s2 hy hz
      have HS := hid_mk (size_any 4 z hT)
      generalize fitsB 4 s = f at *
      generalize sizeV 4 z = v at *
      clear s1 s2 hk j1 j2 c2
      cases hb : sizeB 4 z
      · rw [hb] at HS
        have := and_off E hb
        subst this
        clear E hb
        go_enter Tryz.func46, Tryz.ntmps46
        go_wp2_with (first | (go_at_call 91; refine calls_same (HK.out _) ?_) | (go_at_call 92; refine calls_same HS.out ?_))
        go_ret
        exact ⟨rfl, rfl⟩
      · rw [hb] at HS
        have := and_of E hb
        subst this
        clear E hb
        go_enter Tryz.func46, Tryz.ntmps46
        go_wp2_with (first | (go_at_call 91; refine calls_same (HK.out _) ?_) | (go_at_call 92; refine calls_same HS.out ?_))
        go_ret
        exact ⟨rfl, rfl⟩
    · have hj4 : ((j : Int) == 4) = false := by simp; omega
      obtain ⟨y, hy⟩ : ∃ y, wrap64 (s - wd j) = y := ⟨_, rfl⟩
      have E := fits_back hk j1 j2 h4 s1 s2 hy
      have HS := hid_mk (size_any j y hT)
      generalize fitsB j s = f at *
      generalize sizeV j y = v at *
      generalize wd j = x at *
      clear s1 s2 hk j1 j2 c2 h4
      cases hb : sizeB j y
      · rw [hb] at HS
        have := and_off E hb
        subst this
        clear E hb
        go_enter Tryz.func46, Tryz.ntmps46
        go_wp2_with (first | (go_at_call 91; refine calls_same (HK.out _) ?_) | (go_at_call 92; refine calls_same HS.out ?_))
        go_ret
        exact ⟨rfl, rfl⟩
      · rw [hb] at HS
        have := and_of E hb
        subst this
        clear E hb
        go_enter Tryz.func46, Tryz.ntmps46
        go_wp2_with (first | (go_at_call 91; refine calls_same (HK.out _) ?_) | (go_at_call 92; refine calls_same HS.out ?_))
        go_ret
        exact ⟨rfl, rfl⟩
end Go.Proofs.YtjbbkeoolodeaaaGreatDoor
namespace Go.Proofs.YtjbbkeoolodeaaaGreatDoor
open Go
set_option linter.unusedVariables false
set_option linter.unusedSimpArgs false

/-- the number whose bits below k are f's -/
def pkN (f : Nat → Bool) : Nat → Nat
  | 0 => 0
  | k + 1 => pkN f k + if f k then 2 ^ k else 0
theorem pkN_lt (f : Nat → Bool) (k : Nat) : pkN f k < 2 ^ k := by
  induction k with
  | zero => simp [pkN]
  | succ k ih => unfold pkN; rw [Nat.pow_succ]; split <;> omega
theorem pkN_bit (f : Nat → Bool) (k j : Nat) : (pkN f k).testBit j = (decide (j < k) && f j) := by
  induction k with
  | zero => simp [pkN]
  | succ k ih =>
    have hl := pkN_lt f k
    unfold pkN
    by_cases hf : f k = true
    · rw [if_pos hf, Nat.add_comm, show 2 ^ k + pkN f k = 2 ^ k * 1 + pkN f k from by omega, Nat.testBit_two_pow_mul_add _ hl, ih]
      by_cases h1 : j < k
      · simp [h1]; omega
      · rw [if_neg h1]
        by_cases h2 : j = k
        · subst h2; simp [hf]
        · have : ¬ j < k + 1 := by omega
          obtain ⟨d, hd⟩ : ∃ d, j - k = d + 1 := ⟨j - k - 1, by omega⟩
          rw [hd, Nat.testBit_succ]
          simp [this]
    · rw [if_neg hf, Nat.add_zero, ih]
      by_cases h2 : j = k
      · subst h2; simp [hf]
      · have : (j < k) ↔ (j < k + 1) := by omega
        simp [this]
/-- the i-th word of a set -/
def pk (S : Nat → Bool) (i : Nat) : Nat := pkN (fun j => S (64 * i + j)) 64
theorem pk_lt (S : Nat → Bool) (i : Nat) : pk S i < 18446744073709551616 := pkN_lt _ 64
theorem pk_bit (S : Nat → Bool) (i j : Nat) : (pk S i).testBit j = (decide (j < 64) && S (64 * i + j)) := pkN_bit _ _ _
theorem pk_ext {S : Nat → Bool} {i x : Nat} (h : ∀ j, x.testBit j = (decide (j < 64) && S (64 * i + j))) : x = pk S i :=
  Nat.eq_of_testBit_eq fun j => by rw [h, pk_bit]
theorem pk_congr {S T : Nat → Bool} {i : Nat} (h : ∀ j, j < 64 → S (64 * i + j) = T (64 * i + j)) : pk S i = pk T i :=
  pk_ext fun j => by rw [pk_bit]; by_cases hj : j < 64 <;> simp [hj, h]
/-- the complement within 64 bits -/
theorem bit_full (j : Nat) : (18446744073709551615 : Nat).testBit j = decide (j < 64) := Nat.testBit_two_pow_sub_one 64 j
theorem bit_not64 (x j : Nat) (h : x < 18446744073709551616) : (18446744073709551615 - x).testBit j = (decide (j < 64) && !x.testBit j) := by
  have := Nat.testBit_two_pow_sub_succ (n := 64) (x := x) h j
  rw [show 2 ^ 64 - (x + 1) = 18446744073709551615 - x from by omega] at this
  exact this
theorem bits_andNot_u64_nat (a b : Nat) (ha : a < 18446744073709551616) (hb : b < 18446744073709551616) :
    bits .andNot .u64 (a : Int) (b : Int) = ((a &&& (18446744073709551615 - b) : Nat) : Int) := by
  have hx : a &&& (18446744073709551615 - b) < 2 ^ 64 := Nat.and_lt_two_pow _ (by omega)
  have h1 : (BitVec.ofInt 64 (a : Int)).toNat = a := by
    rw [BitVec.ofInt_natCast, BitVec.toNat_ofNat]; exact Nat.mod_eq_of_lt (by omega)
  have h2 : (BitVec.ofInt 64 (b : Int)).toNat = b := by
    rw [BitVec.ofInt_natCast, BitVec.toNat_ofNat]; exact Nat.mod_eq_of_lt (by omega)
  show IntKind.u64.wrap ((BitVec.ofInt 64 (a : Int) &&& ~~~ BitVec.ofInt 64 (b : Int)).toNat : Int) = _
  rw [BitVec.toNat_and, BitVec.toNat_not, h1, h2, IntKind.wrap_u64]
  rw [show 2 ^ 64 - 1 - b = 18446744073709551615 - b from by omega]
  omega

def upd (S : Nat → Bool) (i : Nat) (b : Bool) : Nat → Bool := fun j => if j = i then b else S j
theorem pk_upd_other (S : Nat → Bool) (i k : Nat) (b : Bool) (h : k ≠ i / 64) : pk (upd S i b) k = pk S k :=
  pk_congr fun j hj => by unfold upd; rw [if_neg (by omega)]
theorem pk_set (S : Nat → Bool) (i : Nat) : pk S (i / 64) ||| 2 ^ (i % 64) = pk (upd S i true) (i / 64) :=
  pk_ext fun j => by
    rw [Nat.testBit_or, pk_bit, Nat.testBit_two_pow]
    unfold upd
    by_cases h : 64 * (i / 64) + j = i
    · have hj : i % 64 = j := by omega
      have hj' : j < 64 := by omega
      simp [h, hj, hj']
    · rw [if_neg h]
      by_cases hj : i % 64 = j
      · omega
      · simp [hj]
theorem pk_clear (S : Nat → Bool) (i : Nat) : pk S (i / 64) &&& (18446744073709551615 - 2 ^ (i % 64)) = pk (upd S i false) (i / 64) :=
  pk_ext fun j => by
    have hp : 2 ^ (i % 64) < 18446744073709551616 := Nat.pow_lt_pow_right (a := 2) (by omega) (show i % 64 < 64 by omega)
    rw [Nat.testBit_and, pk_bit, bit_not64 _ _ hp, Nat.testBit_two_pow]
    unfold upd
    by_cases h : 64 * (i / 64) + j = i
    · have hj : i % 64 = j := by omega
      simp [h, hj]
    · rw [if_neg h]
      by_cases hj : i % 64 = j
      · omega
      · by_cases h6 : j < 64 <;> simp [hj, h6]
theorem pk_get (S : Nat → Bool) (i : Nat) : pk S (i / 64) &&& 2 ^ (i % 64) = if S i then 2 ^ (i % 64) else 0 := by
  apply Nat.eq_of_testBit_eq
  intro j
  rw [Nat.testBit_and, pk_bit, Nat.testBit_two_pow]
  by_cases hj : i % 64 = j
  · have e : 64 * (i / 64) + j = i := by omega
    have h6 : j < 64 := by omega
    cases hs : S i <;> simp [e, hj, h6, hs]
  · cases hs : S i <;> simp [hj, Nat.testBit_two_pow]

/-- all bits, moved up -/
def up (lo : Nat) : Nat := if lo < 64 then 18446744073709551616 - 2 ^ lo else 0
end Go.Proofs.YtjbbkeoolodeaaaGreatDoor
namespace Go.Proofs.YtjbbkeoolodeaaaGreatDoor
open Go
set_option linter.unusedVariables false
set_option linter.unusedSimpArgs false

/-- the least from 'k' on below n that is P; n: there is none -/
def nx (P : Nat → Bool) (n k : Nat) : Nat := if k < n then (if P k then k else nx P n (k + 1)) else n
termination_by n - k
theorem nx_end (P : Nat → Bool) (n k : Nat) (h : n ≤ k) : nx P n k = n := by rw [nx, if_neg (by omega)]
theorem nx_le (P : Nat → Bool) (n k : Nat) : nx P n k ≤ n := by
  by_cases h : k < n
  · rw [nx, if_pos h]; split
    · omega
    · exact nx_le P n (k + 1)
  · rw [nx, if_neg h]; omega
termination_by n - k
theorem nx_ge (P : Nat → Bool) (n k : Nat) (h : k ≤ n) : k ≤ nx P n k := by
  by_cases h : k < n
  · rw [nx, if_pos h]; split
    · omega
    · have := nx_ge P n (k + 1) (by omega); omega
  · rw [nx, if_neg h]; omega
termination_by n - k
theorem nx_in (P : Nat → Bool) (n k : Nat) (h : nx P n k < n) : P (nx P n k) = true := by
  by_cases h' : k < n
  · rw [nx, if_pos h'] at h ⊢
    by_cases hp : P k = true
    · rw [if_pos hp]; exact hp
    · rw [if_neg hp] at h ⊢; exact nx_in P n (k + 1) h
  · rw [nx, if_neg h'] at h; omega
termination_by n - k
theorem nx_out (P : Nat → Bool) (n k : Nat) : ∀ j, k ≤ j → j < nx P n k → P j = false := by
  intro j h1 h2
  by_cases h' : k < n
  · rw [nx, if_pos h'] at h2
    by_cases hp : P k = true
    · rw [if_pos hp] at h2; omega
    · rw [if_neg hp] at h2
      by_cases e : j = k
      · subst e; simpa using hp
      · exact nx_out P n (k + 1) j (by omega) h2
  · rw [nx, if_neg h'] at h2; omega
termination_by n - k
theorem nx_eq (P : Nat → Bool) (n k r : Nat) (h1 : k ≤ r) (h2 : r ≤ n) (h3 : ∀ j, k ≤ j → j < r → P j = false) (h4 : r < n → P r = true) : nx P n k = r := by
  by_cases h' : k < n
  · rw [nx, if_pos h']
    by_cases hp : P k = true
    · rw [if_pos hp]
      by_cases e : k = r
      · exact e
      · rw [h3 k (by omega) (by omega)] at hp; cases hp
    · rw [if_neg hp]
      have : k ≠ r := fun e => by subst e; exact hp (h4 h')
      exact nx_eq P n (k + 1) r (by omega) h2 (fun j a b => h3 j (by omega) b) h4
  · rw [nx, if_neg h']; omega
termination_by n - k
theorem nx_congr {P Q : Nat → Bool} {n k : Nat} (h : ∀ j, k ≤ j → j < n → P j = Q j) : nx P n k = nx Q n k := by
  by_cases hk : k ≤ n
  · refine nx_eq P n k _ (nx_ge Q n k hk) (nx_le Q n k) (fun j a b => ?_) (fun a => ?_)
    · have := nx_le Q n k
      rw [h j a (by omega)]; exact nx_out Q n k j a b
    · rw [h _ (nx_ge Q n k hk) a]; exact nx_in Q n k a
  · rw [nx_end _ _ _ (by omega), nx_end _ _ _ (by omega)]
/-- as the program tells it -/
def nxr (P : Nat → Bool) (n k : Nat) : Int := if nx P n k < n then (nx P n k : Int) else -1
/-! the least bit of a word -/
theorem ctz_spec (x : Nat) (h0 : x ≠ 0) (h : x < 18446744073709551616) : Lib.ctz 64 x < 64 ∧ x.testBit (Lib.ctz 64 x) = true ∧ ∀ j, j < Lib.ctz 64 x → x.testBit j = false := by
  obtain ⟨m, hm, hk⟩ := Lib.ctzFrom_spec 64 x (by omega) h
  have e : Lib.ctz 64 x = Lib.ctzFrom 64 x := by simp [Lib.ctz, h0]
  rw [e]
  refine ⟨hk, ?_, fun j hj => ?_⟩
  · rw [congrArg (fun y => Nat.testBit y (Lib.ctzFrom 64 x)) hm]
    show (2 ^ Lib.ctzFrom 64 x * (2 * m + 1)).testBit (Lib.ctzFrom 64 x) = true
    rw [Nat.testBit_two_pow_mul]
    simp
  · rw [congrArg (fun y => Nat.testBit y j) hm]
    show (2 ^ Lib.ctzFrom 64 x * (2 * m + 1)).testBit j = false
    rw [Nat.testBit_two_pow_mul]
    have : ¬ Lib.ctzFrom 64 x ≤ j := by omega
    simp [this]
theorem pk_none {T : Nat → Bool} {s : Nat} (h : pk T s = 0) : ∀ j, j < 64 → T (64 * s + j) = false := by
  intro j hj
  have := pk_bit T s j
  rw [h] at this
  simpa [hj] using this.symm
theorem pk_first {T : Nat → Bool} {s : Nat} (h : pk T s ≠ 0) : Lib.ctz 64 (pk T s) < 64 ∧ T (64 * s + Lib.ctz 64 (pk T s)) = true ∧ ∀ j, j < Lib.ctz 64 (pk T s) → T (64 * s + j) = false := by
  obtain ⟨h1, h2, h3⟩ := ctz_spec _ h (pk_lt T s)
  refine ⟨h1, ?_, fun j hj => ?_⟩
  · rw [pk_bit] at h2; simpa [h1] using h2
  · have := h3 j hj
    rw [pk_bit] at this
    have hj' : j < 64 := by omega
    simpa [hj'] using this
def from_ (T : Nat → Bool) (a : Nat) : Nat → Bool := fun j => decide (a ≤ j) && T j
theorem pk_head (T : Nat → Bool) (a : Nat) : pk T (a / 64) &&& (18446744073709551615 - (2 ^ (a % 64) - 1)) = pk (from_ T a) (a / 64) :=
  pk_ext fun j => by
    have hp : 2 ^ (a % 64) < 18446744073709551616 := Nat.pow_lt_pow_right (a := 2) (by omega) (show a % 64 < 64 by omega)
    rw [Nat.testBit_and, pk_bit, bit_not64 _ _ (by omega), Nat.testBit_two_pow_sub_one]
    unfold from_
    by_cases h6 : j < 64
    · by_cases h : j < a % 64
      · have : ¬ a ≤ 64 * (a / 64) + j := by omega
        simp [h6, h, this]
      · have : a ≤ 64 * (a / 64) + j := by omega
        simp [h6, h, this]
    · simp [h6]
theorem pk_tail (T : Nat → Bool) (a s : Nat) (h : a / 64 < s) : pk (from_ T a) s = pk T s :=
  pk_congr fun j hj => by
    unfold from_
    have : a ≤ 64 * s + j := by omega
    simp [this]
theorem pk_flip0 (S : Nat → Bool) (s : Nat) : pk S s ^^^ 0 = pk S s := Nat.xor_zero _
theorem pk_flip1 (S : Nat → Bool) (s : Nat) : pk S s ^^^ 18446744073709551615 = pk (fun j => !S j) s :=
  pk_ext fun j => by
    rw [Nat.testBit_xor, pk_bit, bit_full]
    by_cases h6 : j < 64 <;> simp [h6]
/-- what seek comes to -/
theorem seek_found {T : Nat → Bool} {n a s : Nat} (ha : a < n) (hs : a / 64 ≤ s) (hz : ∀ j, a ≤ j → j < 64 * s → T j = false) (h : pk (from_ T a) s ≠ 0) :
    min (s * 64 + Lib.ctz 64 (pk (from_ T a) s)) n = nx T n a := by
  obtain ⟨h1, h2, h3⟩ := pk_first h
  generalize Lib.ctz 64 (pk (from_ T a) s) = c at *
  unfold from_ at h2 h3
  simp only [Bool.and_eq_true, decide_eq_true_eq] at h2
  refine (nx_eq T n a _ (by omega) (by omega) (fun j h4 h5 => ?_) (fun h6 => ?_)).symm
  · by_cases hj : j < 64 * s
    · exact hz j h4 hj
    · have := h3 (j - 64 * s) (by omega)
      rw [show 64 * s + (j - 64 * s) = j from by omega] at this
      simpa [h4] using this
  · rw [show min (s * 64 + c) n = 64 * s + c from by omega]; exact h2.2
theorem seek_none {T : Nat → Bool} {n a s : Nat} (hz : ∀ j, a ≤ j → j < 64 * s → T j = false) (hs : n ≤ 64 * s) : nx T n a = n := by
  by_cases h : a ≤ n
  · exact nx_eq T n a n h (Nat.le_refl _) (fun j a b => hz j a (by omega)) (fun h => by omega)
  · exact nx_end _ _ _ (by omega)
theorem seek_step {T : Nat → Bool} {a s : Nat} (hz : ∀ j, a ≤ j → j < 64 * s → T j = false) (h : pk (from_ T a) s = 0) : ∀ j, a ≤ j → j < 64 * (s + 1) → T j = false := by
  intro j h1 h2
  by_cases hj : j < 64 * s
  · exact hz j h1 hj
  · have := pk_none h (j - 64 * s) (by omega)
    rw [show 64 * s + (j - 64 * s) = j from by omega] at this
    simpa [from_, h1] using this
end Go.Proofs.YtjbbkeoolodeaaaGreatDoor
namespace Go.Proofs.YtjbbkeoolodeaaaGreatDoor
open Go.RowKit
set_option linter.unusedVariables false
set_option linter.unusedSimpArgs false

/-- an object: its kind (0: there is none), size, serial, tag -/
abbrev Blk := Int × Int × Int × Int
def noB : Blk := (0, 0, 0, 0)
def hasB (b : Blk) : Bool := b.1 != 0
/-- a space: its words, its pages, by each place its object, the last serial -/
structure Sp where
  W : Nat → Int
  S : Nat → Int × Int × Int
  O : Nat → Blk
  last : Int
def wN (c : Int) : Nat := (wordsV c).toNat
def roomN (s : Int) : Nat := if 32 < s then ((s + 63) / 64).toNat * 64 else wN (ofV s)
/-- a block of the class begins there in its page -/
def startB (c : Int) (o : Nat) : Bool := decide (o % wN c = 0) && decide (o + wN c ≤ 64)
/-- the free blocks of a class -/
def fr (n : Nat) (st : Sp) (c : Int) (i : Nat) : Bool := decide (i < 64 * n) && (st.S (i / 64) == (1, c, 0)) && startB c (i % 64) && !hasB (st.O i)
def ob (n : Nat) (st : Sp) (i : Nat) : Bool := decide (i < 64 * n) && hasB (st.O i)
def nf (n : Nat) (st : Sp) (c : Int) (i : Nat) : Int := nxr (fr n st c) (64 * n) i
def zeroW (W : Nat → Int) (a k : Nat) : Nat → Int := fun i => if a ≤ i ∧ i < a + k then 0 else W i
def updW (W : Nat → Int) (a : Nat) (v : Int) : Nat → Int := fun i => if i = a then v else W i
def putO (O : Nat → Blk) (a : Nat) (b : Blk) : Nat → Blk := fun i => if i = a then b else O i
/-- the links of a class's free blocks, written -/
def linkW (n : Nat) (st : Sp) (c : Int) : Nat → Int := fun i => if fr n st c i then linkV (nf n st c (i + 1)) else st.W i
def numB (k : Int) : Bool := decide (1 ≤ k) && decide (k ≤ 11)
/-- where an object of so many words would stand, and whether its class takes a page -/
def placeF (n : Nat) (st : Sp) (s : Int) : Option (Nat × Bool) :=
  if 32 < s then (rowF st.S n ((s + 63) / 64).toNat).map fun p => (64 * p, false)
  else if 0 ≤ nf n st (ofV s) 0 then some ((nf n st (ofV s) 0).toNat, false) else (rowF st.S n 1).map fun p => (64 * p, true)
def takeS (st : Sp) (a : Nat) (fresh : Bool) (s : Int) : Nat → Int × Int × Int :=
  if 32 < s then setR st.S (a / 64) ((s + 63) / 64).toNat else if fresh then setC st.S (a / 64) (ofV s) else st.S
def serOf (st : Sp) (k : Int) : Int := if numB k then st.last + 1 else 0
def lastOf (st : Sp) (k : Int) : Int := if numB k then st.last + 1 else st.last
/-- the object stands there from now on -/
def takeF (n : Nat) (st : Sp) (a : Nat) (fresh : Bool) (k s t : Int) : Sp :=
  let O' := putO st.O a (k, s, serOf st k, t)
  let S' := takeS st a fresh s
  let W1 := if fresh then linkW n ⟨zeroW st.W a 64, S', O', 0⟩ (ofV s) else st.W
  ⟨updW (zeroW W1 a (roomN s)) a (makeV a k s), S', O', lastOf st k⟩
/-- Alloc: the place, the error, the error's place, the space behind it -/
def alF (n : Nat) (st : Sp) (k s t : Int) : Int × Int × Int × Sp :=
  if fitsB k s then
    match placeF n st s with
    | none => (0, 20, 0, st)
    | some (a, fresh) =>
      if s ≤ 32 ∧ fresh = false ∧ st.W a ≠ linkV (nf n st (ofV s) (a + 1)) then (0, 21, a, st) else (a, 0, 0, takeF n st a fresh k s t)
  else (0, 24, 0, st)

/-- an object at a place -/
def ObOk (n : Nat) (S : Nat → Int × Int × Int) (a : Nat) (b : Blk) : Prop :=
  a < 64 * n ∧ fitsB b.1 b.2.1 = true ∧ ((b.2.1 ≤ 32 ∧ S (a / 64) = (1, ofV b.2.1, 0) ∧ startB (ofV b.2.1) (a % 64) = true) ∨ (32 < b.2.1 ∧ a % 64 = 0 ∧ S (a / 64) = (2, 0, (b.2.1 + 63) / 64)))
structure Inv (n : Nat) (st : Sp) : Prop where
  n1 : 1 ≤ n
  n2 : n ≤ 4096
  good : Good n st.S
  objs : ∀ a, hasB (st.O a) = true → ObOk n st.S a (st.O a)
  none : ∀ a, hasB (st.O a) = false → st.O a = noB
  heads : ∀ p, p < n → (st.S p).1 = 2 → hasB (st.O (64 * p)) = true
  last0 : 0 ≤ st.last
  ser : ∀ a, hasB (st.O a) = true → (numB (st.O a).1 = true → 1 ≤ (st.O a).2.2.1 ∧ (st.O a).2.2.1 ≤ st.last) ∧ (numB (st.O a).1 = false → (st.O a).2.2.1 = 0)
  one : ∀ a b, hasB (st.O a) = true → hasB (st.O b) = true → 1 ≤ (st.O a).2.2.1 → (st.O a).2.2.1 = (st.O b).2.2.1 → a = b

theorem fits_size {k s : Int} (h : fitsB k s = true) : 1 ≤ k ∧ k ≤ 13 ∧ 1 ≤ s ∧ s ≤ 1024 := by
  obtain ⟨h1, h2, h3, _⟩ := fitsB_iff.1 h
  obtain ⟨j, rfl, j1, j2⟩ := known_nat h1
  obtain ⟨w1, w2, w3, w4, w5, w6, w7⟩ := wd_mo j1 j2
  refine ⟨by omega, by omega, by omega, ?_⟩
  by_cases e : j = 4
  · subst e
    have m : mo 4 = 4096 := rfl
    have m2 : wd 4 = 2 := rfl
    rw [show ((4 : Nat) : Int) = 4 from rfl, part_4, m, m2] at h3
    omega
  · rw [part_not4 (by omega)] at h3
    rcases kinds j1 j2 with rfl | rfl | rfl | rfl | rfl | rfl | rfl | rfl | rfl | rfl | rfl | rfl | rfl <;> (first | omega | (simp [wd, mo] at h3; omega))
theorem wN_pos {c : Int} (h0 : 0 ≤ c) (h7 : c ≤ 7) : 2 ≤ wN c ∧ wN c ≤ 32 := by
  have : c = 0 ∨ c = 1 ∨ c = 2 ∨ c = 3 ∨ c = 4 ∨ c = 5 ∨ c = 6 ∨ c = 7 := by omega
  rcases this with rfl | rfl | rfl | rfl | rfl | rfl | rfl | rfl <;> decide
theorem of_small {s : Int} (h1 : 1 ≤ s) (h2 : s ≤ 32) : 0 ≤ ofV s ∧ ofV s ≤ 7 ∧ s ≤ wordsV (ofV s) := by
  unfold ofV wordsV
  omega
theorem hasB_put {O : Nat → Blk} {a i : Nat} {b : Blk} : hasB (putO O a b i) = if i = a then hasB b else hasB (O i) := by
  unfold putO; split <;> rfl
theorem fr_iff {n : Nat} {st : Sp} {c : Int} {i : Nat} : fr n st c i = true ↔ i < 64 * n ∧ st.S (i / 64) = (1, c, 0) ∧ startB c (i % 64) = true ∧ hasB (st.O i) = false := by
  unfold fr
  rw [Bool.and_eq_true, Bool.and_eq_true, Bool.and_eq_true]
  simp [and_assoc]
theorem ob_has {n : Nat} {st : Sp} (h : Inv n st) (i : Nat) : ob n st i = hasB (st.O i) := by
  unfold ob
  cases e : hasB (st.O i) with
  | false => simp
  | true => simp [(h.objs i e).1]
/-- the next one: none, or the least -/
theorem nxr_cases (P : Nat → Bool) (n k : Nat) : (nxr P n k = -1 ∧ ∀ j, k ≤ j → j < n → P j = false) ∨ ∃ i : Nat, nxr P n k = i ∧ i < n ∧ (k ≤ n → k ≤ i) ∧ P i = true ∧ ∀ j, k ≤ j → j < i → P j = false := by
  unfold nxr
  by_cases h : nx P n k < n
  · rw [if_pos h]
    exact .inr ⟨nx P n k, rfl, h, nx_ge P n k, nx_in P n k h, nx_out P n k⟩
  · rw [if_neg h]
    have := nx_le P n k
    exact .inl ⟨rfl, fun j h1 h2 => nx_out P n k j h1 (by omega)⟩
end Go.Proofs.YtjbbkeoolodeaaaGreatDoor
namespace Go.Proofs.YtjbbkeoolodeaaaGreatDoor
open Go
set_option linter.unusedVariables false
set_option linter.unusedSimpArgs false

def rep (c : Nat) : Nat → Nat
  | 0 => 0
  | k + 1 => 256 * rep c k + c
def f1 (k x : Nat) : Nat := (x / 2 &&& rep 85 k) + (x &&& rep 85 k)
def f2 (k x : Nat) : Nat := (x / 4 &&& rep 51 k) + (x &&& rep 51 k)
def f3 (k x : Nat) : Nat := (x / 16 + x) &&& rep 15 k
def g1 (l : Nat) : Nat := (l / 2 &&& 85) + (l &&& 85)
def g2 (l : Nat) : Nat := (l / 4 &&& 51) + (l &&& 51)
end Go.Proofs.YtjbbkeoolodeaaaGreatDoor
namespace Go.Proofs.YtjbbkeoolodeaaaGreatDoor
open Go.RowKit
set_option linter.unusedVariables false
set_option linter.unusedSimpArgs false

/-- how many words -/
def nw (n : Nat) : Nat := (n + 63) / 64
/-- block b is a bitmap.Map of the length n with the numbers of S, all of it among the blocks from lo on below hi -/
def MapAt (w : World) (lo hi b n : Nat) (S : Nat → Bool) : Prop :=
  ∃ (bw : Nat) (cap : Nat), w.heap[b]? = some (.cells #[.int .i64 n, .slice (some ⟨bw, 0, none⟩) (nw n) cap] 161 (0, 0)) ∧ lo ≤ b ∧ b < hi ∧ hi ≤ w.heap.size ∧ 4 ≤ lo ∧ n ≤ 262144 ∧ nw n ≤ cap ∧ (∀ j, n ≤ j → S j = false) ∧ Tab w ∧
    lo ≤ bw ∧ bw < hi ∧ bw ≠ b ∧ Row w bw 158 (nw n) (fun i => .int .u64 (pk S i))
theorem MapAt.kept {w w' : World} {lo hi b n lo' hi' : Nat} {S : Nat → Bool} (h : MapAt w lo hi b n S) (g : Out lo' hi' w w') (hd : hi ≤ lo' ∨ hi' ≤ lo) (hp : 4 ≤ lo' ∨ hi' = 0) : MapAt w' lo hi b n S := by
  obtain ⟨bw, cap, hb, h1, h2, h3, h4, h5, h6, h7, h8, l1, l2, l3, hr⟩ := h
  have hk : bw < lo' ∨ hi' ≤ bw := by omega
  exact ⟨bw, cap, g.heap hb (by omega), h1, h2, Nat.le_trans h3 g.size, h4, h5, h6, h7, h8.kept g (by omega), l1, l2, l3, hr.kept g hk⟩
theorem MapAt.quiet {w w' : World} {lo hi b n : Nat} {S : Nat → Bool} (h : MapAt w lo hi b n S) (g : Out 0 0 w w') : MapAt w' lo hi b n S := h.kept g (.inr (Nat.zero_le _)) (.inr rfl)
theorem MapAt.drew {w : World} {lo hi b n : Nat} {S : Nat → Bool} (h : MapAt w lo hi b n S) : MapAt w.drew lo hi b n S := h.quiet (Out.refl _ _ _).drew
theorem MapAt.alloc {w : World} {lo hi b n : Nat} {S : Nat → Bool} (h : MapAt w lo hi b n S) (o : Obj) : MapAt (w.alloc o) lo hi b n S := h.quiet ((Out.refl _ _ _).alloc o)
theorem MapAt.tab {w : World} {lo hi b n : Nat} {S : Nat → Bool} (h : MapAt w lo hi b n S) : Tab w := by
  obtain ⟨bw, cap, hb, h1, h2, h3, h4, h5, h6, h7, h8, h9⟩ := h
  exact h8
theorem MapAt.bounds {w : World} {lo hi b n : Nat} {S : Nat → Bool} (h : MapAt w lo hi b n S) : lo ≤ b ∧ b < hi ∧ hi ≤ w.heap.size ∧ 4 ≤ lo ∧ n ≤ 262144 ∧ ∀ j, n ≤ j → S j = false := by
  obtain ⟨bw, cap, hb, h1, h2, h3, h4, h5, h6, h7, h8, h9⟩ := h
  exact ⟨h1, h2, h3, h4, h5, h7⟩
theorem MapAt.len {w : World} {lo hi b n : Nat} {S : Nat → Bool} (h : MapAt w lo hi b n S) : w.cell? ⟨b, 0, none⟩ = some (.int .i64 n) := by
  obtain ⟨bw, cap, hb, _⟩ := h
  simp [World.cell?, hb]
end Go.Proofs.YtjbbkeoolodeaaaGreatDoor
namespace Go.Proofs.YtjbbkeoolodeaaaGreatDoor
open Go.RowKit
set_option linter.unusedVariables false
set_option linter.unusedSimpArgs false

theorem len_any {w : World} {lo hi b n : Nat} {S : Nat → Bool} (h : MapAt w lo hi b n S) :
    Calls Tryz.prog 128 #[.pointer (some ⟨b, 0, none⟩)] w fun e w' => e = .returned (.int .i64 n) ∧ w' = w := by
  have c0 := h.len
  go_enter Tryz.func128, Tryz.ntmps128
  go_wp2
  go_ret
  exact ⟨rfl, rfl⟩
theorem has_any {w : World} {lo hi b n : Nat} {S : Nat → Bool} (h : MapAt w lo hi b n S) (i : Int) :
    Calls Tryz.prog 134 #[.pointer (some ⟨b, 0, none⟩), .int .i64 i] w fun e w' => e = .returned (.bool (inB n i)) ∧ w' = w := by
  have H := hid_mk (len_any h)
  by_cases h0 : 0 ≤ i
  · by_cases h1 : i < n
    · have e : inB n i = true := by simp [inB, h0, h1]
      rw [e]
      go_enter Tryz.func134, Tryz.ntmps134
      go_wp2_with (go_at_call 128; refine calls_same H.out ?_)
      all_goals go_ret
      all_goals exact ⟨rfl, rfl⟩
    · have e : inB n i = false := by simp [inB, h1]
      rw [e]
      go_enter Tryz.func134, Tryz.ntmps134
      go_wp2_with (go_at_call 128; refine calls_same H.out ?_)
      all_goals go_ret
      all_goals exact ⟨ret_bool (by simp; omega), rfl⟩
  · have e : inB n i = false := by simp [inB, h0]
    rw [e]
    go_enter Tryz.func134, Tryz.ntmps134
    go_wp2_with (go_at_call 128; refine calls_same H.out ?_)
    all_goals go_ret
    all_goals exact ⟨rfl, rfl⟩
/-- the bit of i in its word -/
def bitN (i : Nat) : Nat := 2 ^ (i % 64)
theorem bitN_lt (i : Nat) : bitN i < 18446744073709551616 := Nat.pow_lt_pow_right (a := 2) (by omega) (show i % 64 < 64 by omega)
theorem bitN_pos (i : Nat) : 0 < bitN i := Nat.two_pow_pos _
set_option maxHeartbeats 400000 in
theorem bit_any (i : Nat) (w : World) (hi : i < 1000000) :
    Calls Tryz.prog 135 #[.int .i64 i] w fun e w' => e = .returned (.int .u64 (bitN i)) ∧ w' = w := by
  have h0 : (0 : Int) ≤ (i : Int) := by omega
  have h1 : (i : Int) < 1000000 := by omega
  go_enter Tryz.func135, Tryz.ntmps135
  go_wp2
  go_ret
  refine ⟨ret_int ?_, rfl⟩
  rw [IntKind.wrap_u64]
  have h2 := bitN_lt i
  have h3 : ((bitN i : Nat) : Int) = 2 ^ (i % 64) := by unfold bitN; simp
  show (2 : Int) ^ (i % 64) % 18446744073709551616 = _
  rw [← h3]
  omega
set_option maxHeartbeats 1000000 in
theorem tz_core (x k idx : Nat) (w : World) (hx0 : ((x : Int) == 0) = false)
    (key : IntKind.u64.wrap (bits BinOp.and IntKind.u64 (x : Int) (IntKind.u64.wrap (-(x : Int))) * 285870213051353865) / 288230376151711744 = (idx : Int))
    (hi : idx < 64) (hk : k < 64) (hcell : w.cell? ⟨3, idx, none⟩ = some (.int .u8 k)) :
    Calls Tryz.prog 156 #[.int .u64 x] w fun e w' => e = .returned (.int .i64 k) ∧ w' = w := by
  go_enter Tryz.func156, Tryz.ntmps156
  go_wp2_with (simp only [key])
  go_ret
  exact ⟨rfl, rfl⟩
theorem tz_any (x : Nat) (hx : x < 18446744073709551616) (hx0 : x ≠ 0) {w : World} (hT : Tab w) :
    Calls Tryz.prog 156 #[.int .u64 x] w fun e w' => e = .returned (.int .i64 (Lib.ctz 64 x)) ∧ w' = w := by
  obtain ⟨hlow, hk⟩ := Lib.lowest_bit 64 x hx0 hx
  obtain ⟨hi, htab⟩ := Lib.deBruijn64_at _ hk
  have hcell := hT.2.2 _ hi
  rw [htab] at hcell
  exact tz_core x _ _ w (by simp; omega) (tz64_key x _ hx hx0 hlow) hi hk hcell
end Go.Proofs.YtjbbkeoolodeaaaGreatDoor
