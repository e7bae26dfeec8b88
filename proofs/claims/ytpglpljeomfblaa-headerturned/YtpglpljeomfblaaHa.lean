/- headers: plain mathematics -/
import Derived.Test.YtpglpljeomfblaaRows
import Derived.WalkKit
import Derived.ProofKit
import Derived.OpenShut
namespace Go.Proofs.Ytpglpljeomfblaa
open Go.ChangeShapes Go.WideShapes Go.ChangeAt Go.RowKit
set_option linter.unusedVariables false
set_option linter.unusedSimpArgs false

theorem ret_int {k : IntKind} {a b : Int} (h : a = b) : Ending.returned (.int k a) = .returned (.int k b) := by rw [h]
theorem ret_bool {a b : Bool} (h : a = b) : Ending.returned (.bool a) = .returned (.bool b) := by rw [h]
theorem calls_same {P : Program} {f : FuncId} {args : Array Value} {w : World} {v : Value} {K : Ending → World → Prop} (h : Calls P f args w (fun e w' => e = .returned v ∧ w' = w)) (hk : K (.returned v) w) : Calls P f args w K :=
  h.mono (by rintro e w' ⟨rfl, rfl⟩; exact hk)
theorem hid_mk {p : Prop} (h : p) : Hid p := h
theorem i64_bounds {v : Int} (h : (Lit.int .i64 v).wf = true) : -9223372036854775808 ≤ v ∧ v ≤ 9223372036854775807 := by
  simpa [Lit.wf, IntKind.min, IntKind.max, IntKind.signed, IntKind.bits] using h

/-- a good place, kind and size -/
def Good (a k n : Int) : Prop := 0 ≤ a ∧ a ≤ 262143 ∧ 1 ≤ k ∧ k ≤ 31 ∧ 1 ≤ n ∧ n ≤ 1024
def goodB (a k n : Int) : Bool := decide (0 ≤ a ∧ a ≤ 262143 ∧ 1 ≤ k ∧ k ≤ 31 ∧ 1 ≤ n ∧ n ≤ 1024)
theorem goodB_true {a k n : Int} : goodB a k n = true ↔ Good a k n := by unfold goodB Good; rw [decide_eq_true_eq]
theorem good_true {a k n : Int} (h : Good a k n) : goodB a k n = true := goodB_true.2 h
theorem good_false {a k n : Int} (h : ¬Good a k n) : goodB a k n = false := by simpa using fun q => h (goodB_true.1 q)
def xV (a k n : Int) : Int := a * 65536 + k * 2048 + n
def signV (x : Int) : Int := x * 10872568911861 % 17592186044416
def makeV (a k n : Int) : Int := if goodB a k n then (k + n * 32 + signV (xV a k n) * 65536) * 8 + 5 else 0
def kOf (w : Int) : Int := w / 8 % 32
def nOf (w : Int) : Int := w / 256 % 2048
def readB (a w : Int) : Bool := decide (w ≠ 0 ∧ w = makeV a (kOf w) (nOf w))
def readK (a w : Int) : Int := if readB a w then kOf w else 0
def readN (a w : Int) : Int := if readB a w then nOf w else 0

theorem sign_range (x : Int) : 0 ≤ signV x ∧ signV x < 17592186044416 := by
  unfold signV; exact ⟨Int.emod_nonneg _ (by decide), Int.emod_lt_of_pos _ (by decide)⟩
theorem sign_inj {x y : Int} (h1 : 0 ≤ x) (h2 : x < 17179869184) (h3 : 0 ≤ y) (h4 : y < 17179869184) (h : signV x = signV y) : x = y := by
  have h0 : (x * 10872568911861 * 1693535116381) % 17592186044416 = (y * 10872568911861 * 1693535116381) % 17592186044416 := by
    unfold signV at h
    rw [Int.mul_emod, h, ← Int.mul_emod]
  have e : (10872568911861 : Int) * 1693535116381 = 1 + 17592186044416 * 1046662263065 := by decide
  have e1 : ∀ z : Int, z * 10872568911861 * 1693535116381 = z + 17592186044416 * (z * 1046662263065) := by
    intro z
    rw [Int.mul_assoc, e, Int.mul_add, Int.mul_one, Int.mul_left_comm]
  rw [e1, e1, Int.add_mul_emod_self_left, Int.add_mul_emod_self_left, Int.emod_eq_of_lt h1 (Int.lt_trans h2 (by decide)), Int.emod_eq_of_lt h3 (Int.lt_trans h4 (by decide))] at h0
  exact h0
theorem make_good {a k n : Int} (h : Good a k n) : makeV a k n = (k + n * 32 + signV (xV a k n) * 65536) * 8 + 5 := by unfold makeV; rw [if_pos (good_true h)]
theorem make_bad {a k n : Int} (h : ¬Good a k n) : makeV a k n = 0 := by unfold makeV; rw [good_false h]; rfl
theorem x_range {a k n : Int} (h : Good a k n) : 0 ≤ xV a k n ∧ xV a k n < 17179869184 := by unfold Good at h; unfold xV; omega
theorem x_inj {a k n a' k' n' : Int} (h : Good a k n) (h' : Good a' k' n') (e : xV a k n = xV a' k' n') : a = a' ∧ k = k' ∧ n = n' := by
  unfold Good at h h'; unfold xV at e; omega
/-- a header's parts -/
theorem make_parts {a k n : Int} (h : Good a k n) : 0 < makeV a k n ∧ makeV a k n ≤ 9223372036854775807 ∧ makeV a k n % 8 = 5 ∧ kOf (makeV a k n) = k ∧ nOf (makeV a k n) = n ∧ makeV a k n / 524288 = signV (xV a k n) := by
  have hs := sign_range (xV a k n)
  rw [make_good h]
  unfold kOf nOf
  generalize signV (xV a k n) = s at *
  unfold Good at h
  omega
theorem make_range (a k n : Int) : 0 ≤ makeV a k n ∧ makeV a k n ≤ 9223372036854775807 := by
  by_cases h : Good a k n
  · have := make_parts h; omega
  · rw [make_bad h]; omega
theorem make_zero (a k n : Int) : makeV a k n = 0 ↔ ¬Good a k n := by
  constructor
  · intro h g; have := make_parts g; omega
  · exact make_bad
theorem make_inj {a k n a' k' n' : Int} (h : Good a k n) (h' : Good a' k' n') (e : makeV a k n = makeV a' k' n') : a = a' ∧ k = k' ∧ n = n' := by
  obtain ⟨_, _, _, _, _, p⟩ := make_parts h
  obtain ⟨_, _, _, _, _, p'⟩ := make_parts h'
  obtain ⟨r1, r2⟩ := x_range h
  obtain ⟨r3, r4⟩ := x_range h'
  rw [e, p'] at p
  exact x_inj h h' (sign_inj r1 r2 r3 r4 p.symm)
theorem readB_true {a w : Int} : readB a w = true ↔ (w ≠ 0 ∧ w = makeV a (kOf w) (nOf w)) := by unfold readB; rw [decide_eq_true_eq]
theorem read_good {a w : Int} (h : readB a w = true) : Good a (kOf w) (nOf w) := by
  rw [readB_true] at h
  by_cases g : Good a (kOf w) (nOf w)
  · exact g
  · rw [make_bad g] at h; exact absurd h.2 h.1
theorem read_made {a k n : Int} (h : Good a k n) (b : Int) : readB b (makeV a k n) = decide (b = a) := by
  obtain ⟨p1, p2, p3, p4, p5, p6⟩ := make_parts h
  by_cases e : b = a
  · subst e
    simp only [decide_true]
    rw [readB_true, p4, p5]
    exact ⟨by omega, rfl⟩
  · rw [decide_eq_false e]
    by_cases r : readB b (makeV a k n) = true
    · exfalso
      have g := read_good r
      have q := (readB_true.1 r).2
      exact e (make_inj g h q.symm).1
    · simpa using r
theorem read_none {a w : Int} (h : w ≤ 0 ∨ w % 8 ≠ 5) : readB a w = false := by
  by_cases r : readB a w = true
  · exfalso
    have g := read_good r
    have q := (readB_true.1 r).2
    have := make_parts g
    rw [← q] at this
    omega
  · simpa using r

theorem ofInt_nat (b : Int) : (BitVec.ofInt 64 b).toNat = (b % 18446744073709551616).toNat := by
  rw [BitVec.toNat_ofInt]; rfl
theorem and_mask (b : Int) (k : Nat) (m : Int) (hm : (BitVec.ofInt 64 m).toNat = 2 ^ k - 1) (hk : (2 : Int) ^ k ∣ 18446744073709551616) (h63 : (2 : Int) ^ k ≤ 9223372036854775808) : bits .and .i64 b m = b % 2 ^ k := by
  have h : (BitVec.ofInt 64 b &&& BitVec.ofInt 64 m).toNat = (b % 18446744073709551616).toNat % 2 ^ k := by
    rw [BitVec.toNat_and, hm, Nat.and_two_pow_sub_one_eq_mod, ofInt_nat]
  have e : bits .and .i64 b m = IntKind.wrap .i64 ((BitVec.ofInt 64 b &&& BitVec.ofInt 64 m).toNat : Nat) := rfl
  have hp : (0 : Int) < 2 ^ k := Int.pow_pos (by decide)
  have e2 : (((b % 18446744073709551616).toNat % 2 ^ k : Nat) : Int) = b % 2 ^ k := by
    rw [Int.natCast_emod, Int.toNat_of_nonneg (Int.emod_nonneg _ (by decide)), Int.natCast_pow]
    exact Int.emod_emod_of_dvd b hk
  have r1 := Int.emod_nonneg b (Int.ne_of_gt hp)
  have r2 := Int.emod_lt_of_pos b hp
  rw [e, h, e2]
  generalize b % 2 ^ k = z at *
  generalize (2 : Int) ^ k = p at *
  simp [IntKind.wrap, IntKind.signed, IntKind.bits]
  omega
theorem and_7 (b : Int) : bits .and .i64 b 7 = b % 8 := and_mask b 3 7 (by decide) (by decide) (by decide)
theorem and_31 (b : Int) : bits .and .i64 b 31 = b % 32 := and_mask b 5 31 (by decide) (by decide) (by decide)
theorem and_63 (b : Int) : bits .and .i64 b 63 = b % 64 := and_mask b 6 63 (by decide) (by decide) (by decide)
theorem and_2047 (b : Int) : bits .and .i64 b 2047 = b % 2048 := and_mask b 11 2047 (by decide) (by decide) (by decide)
theorem and_44 (b : Int) : bits .and .i64 b 17592186044415 = b % 17592186044416 := and_mask b 44 17592186044415 (by decide) (by decide) (by decide)
theorem or_add (a c t : Int) (k : Nat) (e : a = c * 2 ^ k) (h1 : 0 ≤ c) (h2 : c * 2 ^ k + t ≤ 9223372036854775807) (t1 : 0 ≤ t) (t2 : t < 2 ^ k) : bits .or .i64 a t = a + t := by
  subst e
  have hp : (0 : Int) < 2 ^ k := Int.pow_pos (by decide)
  have hc : 0 ≤ c * 2 ^ k := Int.mul_nonneg h1 (Int.le_of_lt hp)
  have e : bits .or .i64 (c * 2 ^ k) t = IntKind.wrap .i64 ((BitVec.ofInt 64 (c * 2 ^ k) ||| BitVec.ofInt 64 t).toNat : Nat) := rfl
  have e1 : (c * 2 ^ k % 18446744073709551616).toNat = 2 ^ k * c.toNat := by
    rw [Int.emod_eq_of_lt hc (by omega), Int.toNat_mul h1 (Int.le_of_lt hp), Nat.mul_comm]
    congr 1
  have e2 : (t % 18446744073709551616).toNat = t.toNat := by omega
  have e3 : t.toNat < 2 ^ k := by
    have : ((2 ^ k : Nat) : Int) = (2 : Int) ^ k := by simp
    omega
  have h : (BitVec.ofInt 64 (c * 2 ^ k) ||| BitVec.ofInt 64 t).toNat = 2 ^ k * c.toNat + t.toNat := by
    rw [BitVec.toNat_or, ofInt_nat, ofInt_nat, e1, e2, Nat.two_pow_add_eq_or_of_lt e3]
  have e4 : ((2 ^ k * c.toNat + t.toNat : Nat) : Int) = c * 2 ^ k + t := by
    rw [Int.natCast_add, Int.natCast_mul, Int.toNat_of_nonneg h1, Int.toNat_of_nonneg t1, Int.natCast_pow, Int.mul_comm]
    simp
  rw [e, h, e4]
  generalize c * 2 ^ k = z at *
  simp [IntKind.wrap, IntKind.signed, IntKind.bits]
  omega
theorem wrap_in (v : Int) (h1 : 0 ≤ v) (h2 : v ≤ 9223372036854775807) : wrap64 v = v := by unfold wrap64; omega
theorem wrap_mod44 (v : Int) : wrap64 v % 17592186044416 = v % 17592186044416 := by unfold wrap64; omega
theorem sign_eq {a k n : Int} (h : Good a k n) : bits .and .i64 (wrap64 (bits .or .i64 (bits .or .i64 (wrap64 (a * 65536)) (wrap64 (k * 2048))) n * 10872568911861)) 17592186044415 = signV (xV a k n) := by
  unfold Good at h
  have w1 : wrap64 (a * 65536) = a * 65536 := wrap_in _ (by omega) (by omega)
  have w2 : wrap64 (k * 2048) = k * 2048 := wrap_in _ (by omega) (by omega)
  have o1 : bits .or .i64 (a * 65536) (k * 2048) = a * 65536 + k * 2048 := or_add _ a _ 16 rfl (by omega) (by omega) (by omega) (by omega)
  have o2 : bits .or .i64 (a * 65536 + k * 2048) n = a * 65536 + k * 2048 + n := or_add _ (a * 32 + k) _ 11 (by omega) (by omega) (by omega) (by omega) (by omega)
  rw [w1, w2, o1, o2, and_44, wrap_mod44]
  rfl
theorem make_eq {a k n : Int} (h : Good a k n) : bits .or .i64 (wrap64 (bits .or .i64 (bits .or .i64 (wrap64 (signV (xV a k n) * 65536)) (wrap64 (n * 32))) k * 8)) 5 = makeV a k n := by
  rw [make_good h]
  obtain ⟨s1, s2⟩ := sign_range (xV a k n)
  generalize signV (xV a k n) = s at *
  unfold Good at h
  have w1 : wrap64 (s * 65536) = s * 65536 := wrap_in _ (by omega) (by omega)
  have w2 : wrap64 (n * 32) = n * 32 := wrap_in _ (by omega) (by omega)
  have o1 : bits .or .i64 (s * 65536) (n * 32) = s * 65536 + n * 32 := or_add _ s _ 16 rfl (by omega) (by omega) (by omega) (by omega)
  have o2 : bits .or .i64 (s * 65536 + n * 32) k = s * 65536 + n * 32 + k := or_add _ (s * 2048 + n) _ 5 (by omega) (by omega) (by omega) (by omega) (by omega)
  have w3 : wrap64 ((s * 65536 + n * 32 + k) * 8) = (s * 65536 + n * 32 + k) * 8 := wrap_in _ (by omega) (by omega)
  have o3 : bits .or .i64 ((s * 65536 + n * 32 + k) * 8) 5 = (s * 65536 + n * 32 + k) * 8 + 5 := or_add _ (s * 65536 + n * 32 + k) _ 3 rfl (by omega) (by omega) (by omega) (by omega)
  rw [w1, w2, o1, o2, w3, o3]
  omega
/-- one round of the document's product -/
theorem sign_round {x s d f : Int} (h : (s + x * d) % 17592186044416 = f % 17592186044416) (hx : x % 2 = 1) : ((s + d) % 17592186044416 + x / 2 * ((d + d) % 17592186044416)) % 17592186044416 = f % 17592186044416 := by
  rw [← h, Int.add_emod, Int.mul_emod, Int.emod_emod, Int.emod_emod, ← Int.mul_emod, ← Int.add_emod]
  congr 1
  have e : x = x / 2 * 2 + 1 := by omega
  have : x * d = x / 2 * (d + d) + d := by
    conv => lhs; rw [e]
    rw [Int.add_mul, Int.mul_assoc, Int.one_mul, Int.two_mul]
  omega
theorem sign_round0 {x s d f : Int} (h : (s + x * d) % 17592186044416 = f % 17592186044416) (hx : x % 2 ≠ 1) : (s + x / 2 * ((d + d) % 17592186044416)) % 17592186044416 = f % 17592186044416 := by
  rw [← h, Int.add_emod, Int.mul_emod, Int.emod_emod, ← Int.mul_emod, ← Int.add_emod]
  congr 1
  have e : x = x / 2 * 2 := by omega
  have : x * d = x / 2 * (d + d) := by
    conv => lhs; rw [e]
    rw [Int.mul_assoc, Int.two_mul]
  omega
/-- a turned bit -/
theorem wrap_nat (p : Nat) (h : p ≤ 9223372036854775808) : (wrap64 (p : Int) % 18446744073709551616).toNat = p := by unfold wrap64; omega
theorem xor_nat (v s : Nat) (h1 : v < 18446744073709551616) (hs : s < 64) : v ^^^ 2 ^ s ≠ v ∧ v ^^^ 2 ^ s < 18446744073709551616 ∧ (s < 19 → (v ^^^ 2 ^ s) / 524288 = v / 524288) ∧ (19 ≤ s → (v ^^^ 2 ^ s) % 524288 = v % 524288) := by
  have e64 : (18446744073709551616 : Nat) = 2 ^ 64 := by decide
  have e19 : (524288 : Nat) = 2 ^ 19 := by decide
  refine ⟨?_, ?_, ?_, ?_⟩
  · intro q
    have hz : (0 : Nat) < 2 ^ s := Nat.pow_pos (by decide)
    have : v ^^^ (v ^^^ 2 ^ s) = v ^^^ v := by rw [q]
    rw [← Nat.xor_assoc, Nat.xor_self, Nat.zero_xor] at this
    omega
  · rw [e64] at *
    exact Nat.xor_lt_two_pow h1 (Nat.pow_lt_pow_right (by decide) hs)
  · intro h19
    rw [e19, Nat.xor_div_two_pow, Nat.div_eq_of_lt (Nat.pow_lt_pow_right (by decide) h19), Nat.xor_zero]
  · intro h19
    rw [e19, Nat.xor_mod_two_pow, Nat.mod_eq_zero_of_dvd (Nat.pow_dvd_pow 2 h19), Nat.xor_zero]
theorem back_nat (u : Nat) (v : Int) (v1 : 0 ≤ v) (v2 : v ≤ 9223372036854775807) (h : u ≠ v.toNat) (hu : u < 18446744073709551616) : IntKind.wrap .i64 (u : Int) ≠ v ∧ (u / 524288 = v.toNat / 524288 → IntKind.wrap .i64 (u : Int) / 524288 = v / 524288) ∧ (u % 524288 = v.toNat % 524288 → IntKind.wrap .i64 (u : Int) % 524288 = v % 524288) := by
  simp [IntKind.wrap, IntKind.signed, IntKind.bits]
  omega
theorem xor_bit (v : Int) (s : Nat) (v1 : 0 ≤ v) (v2 : v ≤ 9223372036854775807) (hs : s < 64) :
    bits .xor .i64 v (wrap64 (2 ^ s)) ≠ v ∧ (bits .xor .i64 v (wrap64 (2 ^ s)) / 524288 = v / 524288 ∨ bits .xor .i64 v (wrap64 (2 ^ s)) % 524288 = v % 524288) := by
  have hc : ((2 ^ s : Nat) : Int) = (2 : Int) ^ s := by simp
  have hp : (2 ^ s : Nat) ≤ 9223372036854775808 := Nat.le_trans (Nat.pow_le_pow_right (n := 2) (by decide) (Nat.le_of_lt_succ hs)) (by decide)
  have e : bits .xor .i64 v (wrap64 (2 ^ s)) = IntKind.wrap .i64 ((BitVec.ofInt 64 v ^^^ BitVec.ofInt 64 (wrap64 (2 ^ s))).toNat : Nat) := rfl
  have e1 : (v % 18446744073709551616).toNat = v.toNat := by clear hp hc e; omega
  have e2 : (wrap64 (2 ^ s) % 18446744073709551616).toNat = 2 ^ s := by rw [← hc]; exact wrap_nat _ hp
  have h : (BitVec.ofInt 64 v ^^^ BitVec.ofInt 64 (wrap64 (2 ^ s))).toNat = v.toNat ^^^ 2 ^ s := by
    rw [BitVec.toNat_xor, ofInt_nat, ofInt_nat, e1, e2]
  obtain ⟨a1, a2, a3, a4⟩ := xor_nat v.toNat s (by clear hp hc e e1 e2 h; omega) hs
  rw [e, h]
  obtain ⟨b1, b2, b3⟩ := back_nat (v.toNat ^^^ 2 ^ s) v v1 v2 a1 a2
  refine ⟨b1, ?_⟩
  by_cases hs19 : s < 19
  · exact .inl (b2 (a3 hs19))
  · exact .inr (b3 (a4 (Nat.le_of_not_lt hs19)))
theorem turned {a k n u : Int} (h : Good a k n) (hu : u ≠ makeV a k n) (hx : u / 524288 = makeV a k n / 524288 ∨ u % 524288 = makeV a k n % 524288) : readB a u = false := by
  by_cases r : readB a u = true
  · exfalso
    have g := read_good r
    have q := (readB_true.1 r).2
    obtain ⟨p1, p2, p3, p4, p5, p6⟩ := make_parts h
    obtain ⟨q1, q2, q3, q4, q5, q6⟩ := make_parts g
    obtain ⟨x1, x2⟩ := x_range h
    obtain ⟨y1, y2⟩ := x_range g
    apply hu
    rcases hx with hx | hx
    · rw [← q] at q6
      rw [hx, p6] at q6
      obtain ⟨_, e1, e2⟩ := x_inj g h (sign_inj y1 y2 x1 x2 q6.symm)
      rw [q, e1, e2]
    · have e1 : kOf u = k := by rw [← p4]; unfold kOf; generalize makeV a k n = v at *; omega
      have e2 : nOf u = n := by rw [← p5]; unfold nOf; generalize makeV a k n = v at *; omega
      rw [q, e1, e2]
  · simpa using r
end Go.Proofs.Ytpglpljeomfblaa
