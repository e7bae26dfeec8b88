/- products and quotients: plain mathematics -/
import Derived.Test.YteepkghjphmegabM2
namespace Go.Proofs.Yteepkghjphmegab
open Go.ChangeShapes Go.WideShapes Go.ChangeAt Go.RowKit
set_option linter.unusedVariables false
set_option linter.unusedSimpArgs false

def mulM (a b : Int) : Int :=
  if pNone a = true ∨ pNone b = true ∨ ((pInf a = true ∨ pInf b = true) ∧ ((pInf a = false ∧ pWhole a = 0) ∨ (pInf b = false ∧ pWhole b = 0))) then noNum
  else if pInf a = true ∨ pInf b = true then signedV (pNeg a != pNeg b) 9218868437227405312
  else rndV (pNeg a != pNeg b) (pWhole a * pWhole b) (pExp a + pExp b) false

theorem toNat_zero {x : Int} (h : 0 ≤ x) : x.toNat = 0 ↔ x = 0 := by omega

theorem bitsOf_inf (neg : Bool) : bitsOf (FloatKind.f64.format.write (.infinity neg)) = signedV neg 9218868437227405312 := by
  show bitsOf (FloatKind.f64.format.word neg FloatKind.f64.format.infRung) = _
  rw [f64_inf, bitsOf_word _ _ (by decide)]; rfl

theorem mul_link (a b : Int) (ha1 : -9223372036854775808 ≤ a) (ha2 : a ≤ 9223372036854775807) (hb1 : -9223372036854775808 ≤ b) (hb2 : b ≤ 9223372036854775807) : floR .mul a b = mulM a b := by
  have wa := (pWhole_bounds a).1
  have wb := (pWhole_bounds b).1
  unfold floR floatBits
  dsimp only
  unfold Ieee.Format.mul
  rw [read_pat a ha1 ha2, read_pat b hb1 hb2]
  by_cases na : pNone a = true
  · rw [if_pos na, show mulM a b = noNum by (unfold mulM; rw [if_pos (Or.inl na)])]; rfl
  · by_cases nb : pNone b = true
    · rw [if_neg na, if_pos nb, show mulM a b = noNum by (unfold mulM; rw [if_pos (Or.inr (Or.inl nb))])]
      by_cases ia : pInf a = true
      · rw [if_pos ia]; rfl
      · rw [if_neg ia]; rfl
    · rw [if_neg na, if_neg nb]
      by_cases ia : pInf a = true <;> by_cases ib : pInf b = true
      · rw [if_pos ia, if_pos ib, show mulM a b = signedV (pNeg a != pNeg b) 9218868437227405312 by (unfold mulM; rw [if_neg (by simp [na, nb, ia, ib]), if_pos (Or.inl ia)])]
        exact bitsOf_inf _
      · rw [if_pos ia, if_neg ib]
        have ib' := Bool.eq_false_iff.mpr ib
        by_cases z : pWhole b = 0
        · rw [show mulM a b = noNum by (unfold mulM; rw [if_pos (Or.inr (Or.inr ⟨Or.inl ia, Or.inr ⟨ib', z⟩⟩))])]
          have : (pWhole b).toNat = 0 := by omega
          simp [Ieee.Datum.product, this]
        · rw [show mulM a b = signedV (pNeg a != pNeg b) 9218868437227405312 by (unfold mulM; rw [if_neg (by simp [na, nb, ia, z]), if_pos (Or.inl ia)])]
          have : ¬ (pWhole b).toNat = 0 := by omega
          simp only [Ieee.Datum.product, this, if_false, Option.map_some]
          exact bitsOf_inf _
      · rw [if_neg ia, if_pos ib]
        have ia' := Bool.eq_false_iff.mpr ia
        by_cases z : pWhole a = 0
        · rw [show mulM a b = noNum by (unfold mulM; rw [if_pos (Or.inr (Or.inr ⟨Or.inr ib, Or.inl ⟨ia', z⟩⟩))])]
          have : (pWhole a).toNat = 0 := by omega
          simp [Ieee.Datum.product, this]
        · rw [show mulM a b = signedV (pNeg a != pNeg b) 9218868437227405312 by (unfold mulM; rw [if_neg (by simp [na, nb, ib, z]), if_pos (Or.inr ib)])]
          have : ¬ (pWhole a).toNat = 0 := by omega
          simp only [Ieee.Datum.product, this, if_false, Option.map_some]
          rw [bitsOf_inf]
          cases pNeg a <;> cases pNeg b <;> rfl
      · rw [if_neg ia, if_neg ib, show mulM a b = rndV (pNeg a != pNeg b) (pWhole a * pWhole b) (pExp a + pExp b) false by (unfold mulM; rw [if_neg (by simp [na, nb, ia, ib]), if_neg (by simp [ia, ib])])]
        show bitsOf (FloatKind.f64.format.nearest _ _ _) = _
        rw [bitsOf_nearest, Int.natCast_mul, Int.toNat_of_nonneg wa, Int.toNat_of_nonneg wb]

/-- more digits behind the place that is rounded at change nothing, if what is left is told -/
theorem rung_more (N t : Int) (d : Nat) (h exp : Int) (more : Bool) (hN : 0 < N) (ht0 : 0 ≤ t) (ht1 : t < 2 ^ d) (hlow : 1 ≤ lowV h exp) :
    rungV (N * 2 ^ d + t) (h + d) (exp - d) more = rungV N h exp (decide (t ≠ 0) || more) := by
  have hl : lowV (h + d) (exp - d) = lowV h exp + d := by unfold lowV; omega
  have hpd := pow_pos' d
  unfold rungV
  rw [hl]
  generalize hL : lowV h exp = low at *
  obtain ⟨k, rfl⟩ : ∃ k : Nat, low = ((k + 1 : Nat) : Int) := ⟨low.toNat - 1, by omega⟩
  have hdiv : ∀ j : Nat, (N * 2 ^ d + t) / 2 ^ (j + d) = N / 2 ^ j := by
    intro j
    rw [Nat.add_comm, Int.pow_add, ← Int.ediv_ediv_of_nonneg (by omega)]
    congr 1
    rw [Int.add_comm, Int.add_mul_ediv_right _ _ (by omega), Int.ediv_eq_zero_of_lt ht0 ht1]; omega
  have hfl : flV (N * 2 ^ d + t) (((k + 1 : Nat) : Int) + d) = flV N ((k + 1 : Nat) : Int) := by
    unfold flV
    rw [if_pos (by omega), if_pos (by omega)]
    have e1 : ((((k + 1 : Nat) : Int) + d)).toNat = (k + 1) + d := by omega
    have e2 : (((k + 1 : Nat) : Int)).toNat = k + 1 := by omega
    rw [e1, e2, hdiv]
  have hat : atV (N * 2 ^ d + t) (((k + 1 : Nat) : Int) + d - 1) = atV N (((k + 1 : Nat) : Int) - 1) := by
    unfold atV bit
    rw [if_neg (by omega), if_neg (by omega)]
    have e1 : ((((k + 1 : Nat) : Int) + d - 1)).toNat = k + d := by omega
    have e2 : ((((k + 1 : Nat) : Int) - 1)).toNat = k := by omega
    rw [e1, e2, hdiv]
  have hrest : restB (N * 2 ^ d + t) ((((k + 1 : Nat) : Int) + d - 1)).toNat = (restB N ((((k + 1 : Nat) : Int) - 1)).toNat || decide (t ≠ 0)) := by
    have e1 : ((((k + 1 : Nat) : Int) + d - 1)).toNat = k + d := by omega
    have e2 : ((((k + 1 : Nat) : Int) - 1)).toNat = k := by omega
    rw [e1, e2]
    have hm : (N * 2 ^ d + t) % 2 ^ (k + d) = (N % 2 ^ k) * 2 ^ d + t := by
      have h1 := Int.mul_ediv_add_emod (N * 2 ^ d + t) (2 ^ (k + d))
      have h2 := Int.mul_ediv_add_emod N (2 ^ k)
      rw [hdiv k, Int.pow_add] at h1
      have h3 : N * 2 ^ d = 2 ^ k * 2 ^ d * (N / 2 ^ k) + N % 2 ^ k * 2 ^ d := by
        conv => lhs; rw [← h2]
        rw [Int.add_mul]; congr 1
        simp only [Int.mul_assoc, Int.mul_comm, Int.mul_left_comm]
      rw [Int.pow_add]
      omega
    have hk0 := Int.emod_nonneg N (Int.ne_of_gt (pow_pos' k))
    unfold restB
    rw [hm, Bool.eq_iff_iff]
    simp only [decide_eq_true_eq, Bool.or_eq_true]
    by_cases hz : N % 2 ^ k = 0
    · rw [hz]; simp
    · have : 0 < N % 2 ^ k * 2 ^ d := Int.mul_pos (by omega) hpd
      simp [hz]; omega
  have hup : upB (N * 2 ^ d + t) (((k + 1 : Nat) : Int) + d) more = upB N ((k + 1 : Nat) : Int) (decide (t ≠ 0) || more) := by
    unfold upB
    rw [hat, hrest, hfl]
    cases (decide (t ≠ 0)) <;> cases more <;> cases (restB N ((((k + 1 : Nat) : Int) - 1)).toNat) <;> simp
  rw [hfl, hup]
  congr 2
  omega

theorem log_bounds (q : Int) (h : 0 < q) : 2 ^ q.toNat.log2 ≤ q ∧ q < 2 ^ (q.toNat.log2 + 1) := by
  obtain ⟨n, rfl⟩ : ∃ n : Nat, q = (n : Int) := ⟨q.toNat, by omega⟩
  have h1 : 2 ^ n.log2 ≤ n := Nat.log2_self_le (by omega)
  have h2 : n < 2 ^ (n.log2 + 1) := Nat.lt_log2_self
  simp only [Int.toNat_natCast]
  exact ⟨by exact_mod_cast h1, by exact_mod_cast h2⟩

theorem log_is (q : Int) (k : Nat) (h : 0 < q) (h1 : 2 ^ k ≤ q) (h2 : q < 2 ^ (k + 1)) : q.toNat.log2 = k := by
  have := top_log (N := q) (h := (k : Int)) h (.inr ⟨by omega, by simpa using h1, by simpa using h2⟩)
  omega

theorem log_shift (q t : Int) (d : Nat) (hq : 0 < q) (ht0 : 0 ≤ t) (ht1 : t < 2 ^ d) : (q * 2 ^ d + t).toNat.log2 = q.toNat.log2 + d := by
  obtain ⟨h1, h2⟩ := log_bounds q hq
  have hpd := pow_pos' d
  have m1 := Int.mul_le_mul_of_nonneg_right h1 (Int.le_of_lt hpd)
  have m2 := Int.mul_le_mul_of_nonneg_right (a := q + 1) (b := 2 ^ (q.toNat.log2 + 1)) (c := 2 ^ d) (by omega) (Int.le_of_lt hpd)
  have m3 : 0 < q * 2 ^ d := Int.mul_pos hq hpd
  rw [Int.add_mul, Int.one_mul] at m2
  apply log_is _ _ (by omega)
  · rw [Int.pow_add]; omega
  · rw [show q.toNat.log2 + d + 1 = q.toNat.log2 + 1 + d by omega, Int.pow_add (m := q.toNat.log2 + 1)]; omega

/-- two quotients, one with more digits than the other one, are rounded alike -/
theorem rnd_more (neg : Bool) (q t : Int) (d : Nat) (exp : Int) (more : Bool) (hq : 9007199254740992 ≤ q) (ht0 : 0 ≤ t) (ht1 : t < 2 ^ d) :
    rndV neg (q * 2 ^ d + t) (exp - d) more = rndV neg q exp (decide (t ≠ 0) || more) := by
  have hpd := pow_pos' d
  have m3 : 0 < q * 2 ^ d := Int.mul_pos (by omega) hpd
  have hlog : (53 : Int) ≤ (q.toNat.log2 : Int) := by
    have h2 := (log_bounds q (by omega)).2
    by_cases hh : q.toNat.log2 ≤ 52
    · have : (2 : Int) ^ (q.toNat.log2 + 1) ≤ 2 ^ 53 := pow_le_pow (by omega)
      rw [pow53] at this; omega
    · omega
  unfold rndV
  rw [if_neg (by omega), if_neg (by omega), log_shift q t d (by omega) ht0 ht1]
  congr 1
  have e := rung_more q t d (q.toNat.log2 : Int) exp more (by omega) ht0 ht1 (by unfold lowV; omega)
  rw [← e]; congr 1

theorem div_more (N y : Int) (d : Nat) (hy : 0 < y) (hN : 0 ≤ N) :
    ∃ t, 0 ≤ t ∧ t < 2 ^ d ∧ N * 2 ^ d / y = N / y * 2 ^ d + t ∧ ((decide (t ≠ 0) || decide (0 < N * 2 ^ d % y)) = decide (0 < N % y)) := by
  have hpd := pow_pos' d
  have h1 := Int.mul_ediv_add_emod N y
  have r0 := Int.emod_nonneg N (Int.ne_of_gt hy)
  have r1 := Int.emod_lt_of_pos N hy
  generalize hR : N % y = R at *
  generalize hQ : N / y = Q at *
  have hN2 : N * 2 ^ d = R * 2 ^ d + y * (Q * 2 ^ d) := by
    rw [← h1, Int.add_mul, Int.mul_assoc]; omega
  have m0 : 0 ≤ R * 2 ^ d := Int.mul_nonneg r0 (by omega)
  have h2 := Int.mul_ediv_add_emod (R * 2 ^ d) y
  have s0 := Int.emod_nonneg (R * 2 ^ d) (Int.ne_of_gt hy)
  have s1 := Int.emod_lt_of_pos (R * 2 ^ d) hy
  refine ⟨R * 2 ^ d / y, Int.ediv_nonneg m0 (by omega), ?_, ?_, ?_⟩
  · apply Int.ediv_lt_of_lt_mul hy
    rw [Int.mul_comm]
    exact Int.mul_lt_mul_of_pos_left r1 hpd
  · rw [hN2, Int.add_mul_ediv_left _ _ (by omega)]; omega
  · have e : N * 2 ^ d % y = R * 2 ^ d % y := by rw [hN2, Int.add_mul_emod_self_left]
    rw [e, Bool.eq_iff_iff]
    simp only [Bool.or_eq_true, decide_eq_true_eq]
    by_cases hz : R = 0
    · subst hz; simp
    · have hp : 0 < R * 2 ^ d := Int.mul_pos (by omega) hpd
      constructor
      · intro _; omega
      · intro _
        by_cases hq : R * 2 ^ d / y = 0
        · right; rw [hq] at h2; omega
        · exact .inl hq

theorem quo_fin (neg : Bool) (x y : Int) (e : Int) (hx : 0 < x) (hx1 : x < 9007199254740992) (hy : 0 < y) (hy1 : y < 9007199254740992) :
    rndV neg ((2 * ((x.toNat <<< (54 + y.toNat.log2 - x.toNat.log2)) / y.toNat) + ((x.toNat <<< (54 + y.toNat.log2 - x.toNat.log2)) % y.toNat != 0).toNat : Nat) : Int) (e - ((54 + y.toNat.log2 - x.toNat.log2 : Nat) : Int) - 1) false =
    rndV neg (x * 2 ^ 120 / y) (e - 120) (decide (0 < x * 2 ^ 120 % y)) := by
  obtain ⟨lx1, lx2⟩ := log_bounds x hx
  obtain ⟨ly1, ly2⟩ := log_bounds y hy
  have hlx : x.toNat.log2 ≤ 52 := by
    by_cases h : x.toNat.log2 ≤ 52
    · exact h
    · have : (2 : Int) ^ 53 ≤ 2 ^ x.toNat.log2 := pow_le_pow (by omega)
      rw [pow53] at this; omega
  have hly : y.toNat.log2 ≤ 52 := by
    by_cases h : y.toNat.log2 ≤ 52
    · exact h
    · have : (2 : Int) ^ 53 ≤ 2 ^ y.toNat.log2 := pow_le_pow (by omega)
      rw [pow53] at this; omega
  obtain ⟨k, hk⟩ : ∃ k, k = 54 + y.toNat.log2 - x.toNat.log2 := ⟨_, rfl⟩
  rw [← hk]
  have hk120 : k ≤ 120 := by omega
  have hD : ((x.toNat <<< k : Nat) : Int) = x * 2 ^ k := by
    rw [shl_pow, Int.natCast_mul, Int.toNat_of_nonneg (by omega)]; simp
  have hyn : ((y.toNat : Nat) : Int) = y := Int.toNat_of_nonneg (by omega)
  have hpk := pow_pos' k
  have hq : 9007199254740992 ≤ x * 2 ^ k / y := by
    apply Int.le_ediv_of_mul_le hy
    have m1 := Int.mul_le_mul_of_nonneg_right lx1 (Int.le_of_lt hpk)
    rw [← Int.pow_add, show x.toNat.log2 + k = 53 + (y.toNat.log2 + 1) by omega, Int.pow_add, pow53] at m1
    have m2 := Int.mul_le_mul_of_nonneg_left (Int.le_of_lt ly2) (show (0 : Int) ≤ 9007199254740992 by omega)
    omega
  have hmag : ((2 * ((x.toNat <<< k) / y.toNat) + ((x.toNat <<< k) % y.toNat != 0).toNat : Nat) : Int) = (x * 2 ^ k / y) * 2 ^ 1 + (if 0 < x * 2 ^ k % y then 1 else 0) := by
    have e1 : (((x.toNat <<< k) / y.toNat : Nat) : Int) = x * 2 ^ k / y := by rw [Int.natCast_ediv, hD, hyn]
    have e2 : (((x.toNat <<< k) % y.toNat : Nat) : Int) = x * 2 ^ k % y := by rw [Int.natCast_emod, hD, hyn]
    rw [← e1, ← e2]
    by_cases hz : (x.toNat <<< k) % y.toNat = 0
    · rw [hz]; simp; omega
    · have : 0 < (x.toNat <<< k) % y.toNat := by omega
      have hb : ((x.toNat <<< k) % y.toNat != 0) = true := by simpa using hz
      rw [hb, if_pos (by exact_mod_cast this)]; simp; omega
  rw [hmag]
  have hA := rnd_more neg (x * 2 ^ k / y) (if 0 < x * 2 ^ k % y then 1 else 0) 1 (e - k) false hq (by split <;> omega) (by split <;> simp)
  have ee : e - (k : Int) - 1 = e - k - ((1 : Nat) : Int) := by omega
  rw [ee, hA]
  obtain ⟨d, hd⟩ : ∃ d, 120 = k + d := ⟨120 - k, by omega⟩
  obtain ⟨t, t0, t1, t2, t3⟩ := div_more (x * 2 ^ k) y d hy (Int.mul_nonneg (by omega) (by omega))
  have hB := rnd_more neg (x * 2 ^ k / y) t d (e - k) (decide (0 < x * 2 ^ k * 2 ^ d % y)) hq t0 t1
  have hpow : x * 2 ^ 120 = x * 2 ^ k * 2 ^ d := by rw [hd, Int.pow_add, Int.mul_assoc]
  rw [hpow, t2, show e - 120 = e - k - d by omega, hB, t3]
  congr 1
  by_cases hz : 0 < x * 2 ^ k % y
  · simp [hz]
  · simp [hz]

def divV (a b : Int) : Int :=
  if pNone a = true ∨ pNone b = true ∨ (pInf a = true ∧ pInf b = true) ∨ (pInf a = false ∧ pInf b = false ∧ pWhole a = 0 ∧ pWhole b = 0) then noNum
  else if pInf a = true ∨ (pInf b = false ∧ pWhole b = 0) then signedV (pNeg a != pNeg b) 9218868437227405312
  else if pInf b = true then signedV (pNeg a != pNeg b) 0
  else rndV (pNeg a != pNeg b) (pWhole a * 2 ^ 120 / pWhole b) (pExp a - pExp b - 120) (decide (0 < pWhole a * 2 ^ 120 % pWhole b))

theorem xor_bne (x y : Bool) : (x ^^ y) = (x != y) := by cases x <;> cases y <;> rfl

theorem div_link (a b : Int) (ha1 : -9223372036854775808 ≤ a) (ha2 : a ≤ 9223372036854775807) (hb1 : -9223372036854775808 ≤ b) (hb2 : b ≤ 9223372036854775807) : floR .quo a b = divV a b := by
  obtain ⟨wa, wa1⟩ := pWhole_bounds a
  obtain ⟨wb, wb1⟩ := pWhole_bounds b
  unfold floR floatBits
  dsimp only
  unfold Ieee.Format.div
  rw [read_pat a ha1 ha2, read_pat b hb1 hb2]
  by_cases na : pNone a = true
  · rw [if_pos na, show divV a b = noNum by (unfold divV; rw [if_pos (Or.inl na)])]; rfl
  · by_cases nb : pNone b = true
    · rw [if_neg na, if_pos nb, show divV a b = noNum by (unfold divV; rw [if_pos (Or.inr (Or.inl nb))])]
      by_cases ia : pInf a = true
      · rw [if_pos ia]; rfl
      · rw [if_neg ia]; rfl
    · rw [if_neg na, if_neg nb]
      by_cases ia : pInf a = true <;> by_cases ib : pInf b = true
      · rw [if_pos ia, if_pos ib, show divV a b = noNum by (unfold divV; rw [if_pos (Or.inr (Or.inr (Or.inl ⟨ia, ib⟩)))])]
        rfl
      · rw [if_pos ia, if_neg ib, show divV a b = signedV (pNeg a != pNeg b) 9218868437227405312 by (unfold divV; rw [if_neg (by simp [na, nb, ia, ib]), if_pos (Or.inl ia)])]
        exact bitsOf_inf _
      · rw [if_neg ia, if_pos ib, show divV a b = signedV (pNeg a != pNeg b) 0 by (unfold divV; rw [if_neg (by simp [na, nb, ia, ib]), if_neg (by simp [ia, ib]), if_pos ib])]
        show bitsOf (FloatKind.f64.format.nearest _ 0 0) = _
        rw [bitsOf_nearest]
        exact rnd_zero _ _ _
      · rw [if_neg ia, if_neg ib]
        have ia' := Bool.eq_false_iff.mpr ia
        have ib' := Bool.eq_false_iff.mpr ib
        by_cases zb : pWhole b = 0
        · have tb : (pWhole b).toNat = 0 := by omega
          by_cases za : pWhole a = 0
          · have ta : (pWhole a).toNat = 0 := by omega
            rw [show divV a b = noNum by (unfold divV; rw [if_pos (Or.inr (Or.inr (Or.inr ⟨ia', ib', za, zb⟩)))])]
            simp [Ieee.Datum.quotient, ta, tb]
          · have ta : ¬ (pWhole a).toNat = 0 := by omega
            rw [show divV a b = signedV (pNeg a != pNeg b) 9218868437227405312 by (unfold divV; rw [if_neg (by simp [na, nb, ia, za]), if_pos (Or.inr ⟨ib', zb⟩)])]
            simp only [Ieee.Datum.quotient, ta, tb, if_true, if_false, Option.map_some]
            exact bitsOf_inf _
        · have tb : ¬ (pWhole b).toNat = 0 := by omega
          rw [show divV a b = rndV (pNeg a != pNeg b) (pWhole a * 2 ^ 120 / pWhole b) (pExp a - pExp b - 120) (decide (0 < pWhole a * 2 ^ 120 % pWhole b)) by (unfold divV; rw [if_neg (by simp [na, nb, ia, zb]), if_neg (by simp [ia, zb]), if_neg ib])]
          simp only [Ieee.Datum.quotient, tb, if_false, Option.map_some]
          show bitsOf (FloatKind.f64.format.nearest _ _ _) = _
          rw [bitsOf_nearest, xor_bne]
          by_cases za : pWhole a = 0
          · have ta : (pWhole a).toNat = 0 := by omega
            rw [ta, za]
            simp [rnd_zero]
          · exact quo_fin _ (pWhole a) (pWhole b) (pExp a - pExp b) (by omega) wa1 (by omega) wb1

end Go.Proofs.Yteepkghjphmegab
