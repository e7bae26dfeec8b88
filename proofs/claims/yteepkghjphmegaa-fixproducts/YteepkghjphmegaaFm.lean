/- the document's sum is the model's -/
import Derived.Test.YteepkghjphmegaaFa
namespace Go.Proofs.Yteepkghjphmegaa
open Go.ChangeShapes Go.WideShapes Go.ChangeAt Go.RowKit
set_option linter.unusedVariables false
set_option linter.unusedSimpArgs false

theorem read_word (neg : Bool) (r : Nat) (h : r ≤ 9218868437227405312) : (∃ m e, FloatKind.f64.format.read (FloatKind.f64.format.word neg r) = .number neg m e) ∨ FloatKind.f64.format.read (FloatKind.f64.format.word neg r) = .infinity neg := by
  have hs : (FloatKind.f64.format.word neg r / 9223372036854775808 % 2 == 1) = neg := by
    unfold Ieee.Format.word; rw [f64_sign]
    cases neg
    · simp; omega
    · simp; omega
  have hm : FloatKind.f64.format.word neg r % 9223372036854775808 = r := by
    unfold Ieee.Format.word; rw [f64_sign]
    cases neg
    · simp; omega
    · simp; omega
  unfold Ieee.Format.read
  rw [f64_sign, f64_inf, f64_bin, f64_least, hs, hm]
  dsimp only
  by_cases c1 : r < 4503599627370496
  · rw [if_pos c1]; exact .inl ⟨_, _, rfl⟩
  · by_cases c2 : r < 9218868437227405312
    · rw [if_neg c1, if_pos c2]; exact .inl ⟨_, _, rfl⟩
    · rw [if_neg c1, if_neg c2, if_pos (by omega)]; exact .inr rfl
theorem bitsOf_word (neg : Bool) (r : Nat) (h : r ≤ 9218868437227405312) : bitsOf (FloatKind.f64.format.word neg r) = signedV neg r := by
  have ho : FloatKind.f64.format.order (FloatKind.f64.format.word neg r) (FloatKind.f64.format.word neg r) = some .eq := by
    unfold Ieee.Format.order
    rcases read_word neg r h with ⟨m, e, hr⟩ | hr <;> rw [hr] <;> simp [Ieee.Datum.order]
  unfold bitsOf
  rw [ho, if_neg (by simp)]
  exact word_wrap neg r (by omega)
theorem nearest_word (neg : Bool) (N : Nat) (exp : Int) : ∃ r, r ≤ 9218868437227405312 ∧ FloatKind.f64.format.nearest neg N exp = FloatKind.f64.format.word neg r := by
  unfold Ieee.Format.nearest
  by_cases h : N = 0
  · rw [if_pos h]; exact ⟨0, by decide, rfl⟩
  · rw [if_neg h]; exact ⟨_, by rw [f64_inf]; exact Nat.min_le_right _ _, rfl⟩
theorem bitsOf_nearest (neg : Bool) (N : Nat) (exp : Int) : bitsOf (FloatKind.f64.format.nearest neg N exp) = rndV neg N exp false := by
  obtain ⟨r, hr, e⟩ := nearest_word neg N exp
  rw [rnd_nearest, e, bitsOf_word neg r hr, word_wrap neg r (by omega)]

theorem inf_is (a : Int) (h1 : -9223372036854775808 ≤ a) (h2 : a ≤ 9223372036854775807) (h : pInf a = true) : signedV (pNeg a) 9218868437227405312 = a := by
  unfold pInf rg at h
  rw [decide_eq_true_eq] at h
  unfold signedV pNeg
  by_cases c : a < 0
  · simp [c]; omega
  · simp [c]; omega
theorem none_notinf (a : Int) (h : pNone a = true) : pInf a = false := by
  unfold pNone at h; unfold pInf
  rw [decide_eq_true_eq] at h; rw [decide_eq_false_iff_not]; omega

/-- a number with its sign -/
def sg (neg : Bool) (n : Int) : Int := if neg = true then -n else n
theorem signed_sg (neg : Bool) (m : Int) (k : Nat) (h : 0 ≤ m) : Ieee.signed neg m.toNat k = sg neg (m * 2 ^ k) := by
  have e : ((m.toNat <<< k : Nat) : Int) = m * 2 ^ k := by
    rw [shl_pow, Int.natCast_mul, Int.toNat_of_nonneg h]; simp
  unfold Ieee.signed sg
  rw [e]
theorem sum_fin (a b : Int) : (Ieee.Datum.number (pNeg a) (pWhole a).toNat (pExp a)).sum (Ieee.Datum.number (pNeg b) (pWhole b).toNat (pExp b)) =
    some (.number (if sg (pNeg a) (magL a b) + sg (pNeg b) (magR a b) = 0 then pNeg a && pNeg b else decide (sg (pNeg a) (magL a b) + sg (pNeg b) (magR a b) < 0)) (sg (pNeg a) (magL a b) + sg (pNeg b) (magR a b)).natAbs (lowE a b)) := by
  have ha := (pWhole_bounds a).1
  have hb := (pWhole_bounds b).1
  unfold Ieee.Datum.sum
  dsimp only
  rw [signed_sg _ _ _ ha, signed_sg _ _ _ hb]
  rfl
theorem mag_nonneg (a b : Int) : 0 ≤ magL a b ∧ 0 ≤ magR a b :=
  ⟨Int.mul_nonneg (pWhole_bounds a).1 (Int.le_of_lt (pow_pos' _)), Int.mul_nonneg (pWhole_bounds b).1 (Int.le_of_lt (pow_pos' _))⟩
theorem rnd_zero (neg : Bool) (exp : Int) (more : Bool) : rndV neg 0 exp more = signedV neg 0 := by unfold rndV; rw [if_pos rfl]
theorem fin_link (a b : Int) : rndV (if sg (pNeg a) (magL a b) + sg (pNeg b) (magR a b) = 0 then pNeg a && pNeg b else decide (sg (pNeg a) (magL a b) + sg (pNeg b) (magR a b) < 0)) ((sg (pNeg a) (magL a b) + sg (pNeg b) (magR a b)).natAbs : Int) (lowE a b) false = finAdd a b := by
  obtain ⟨h1, h2⟩ := mag_nonneg a b
  unfold finAdd
  generalize magL a b = X at *
  generalize magR a b = Y at *
  generalize lowE a b = low at *
  cases pNeg a <;> cases pNeg b <;> simp only [sg, Bool.false_eq_true, if_false, if_true, Bool.and_false, Bool.and_true, Bool.and_self, Bool.true_eq_false, reduceCtorEq]
  · have e : ((X + Y).natAbs : Int) = X + Y := by omega
    rw [e]
    by_cases hz : X + Y = 0
    · rw [if_pos hz]
    · rw [if_neg hz, show decide (X + Y < 0) = false from decide_eq_false (by omega)]
  · by_cases hz : X = Y
    · rw [if_pos hz, if_pos (by omega)]
      have e : ((X + -Y).natAbs : Int) = 0 := by omega
      rw [e, rnd_zero]; rfl
    · rw [if_neg hz, if_neg (by omega)]
      by_cases hlt : Y < X
      · rw [if_pos hlt, show decide (X + -Y < 0) = false from decide_eq_false (by omega), show ((X + -Y).natAbs : Int) = X - Y by omega]
      · rw [if_neg hlt, show decide (X + -Y < 0) = true from decide_eq_true (by omega), show ((X + -Y).natAbs : Int) = Y - X by omega]
  · by_cases hz : X = Y
    · rw [if_pos hz, if_pos (by omega)]
      have e : ((-X + Y).natAbs : Int) = 0 := by omega
      rw [e, rnd_zero]; rfl
    · rw [if_neg hz, if_neg (by omega)]
      by_cases hlt : Y < X
      · rw [if_pos hlt, show decide (-X + Y < 0) = true from decide_eq_true (by omega), show ((-X + Y).natAbs : Int) = X - Y by omega]
      · rw [if_neg hlt, show decide (-X + Y < 0) = false from decide_eq_false (by omega), show ((-X + Y).natAbs : Int) = Y - X by omega]
  · have e : ((-X + -Y).natAbs : Int) = X + Y := by omega
    rw [e]
    by_cases hz : -X + -Y = 0
    · rw [if_pos hz]
    · rw [if_neg hz, show decide (-X + -Y < 0) = true from decide_eq_true (by omega)]

theorem add_link (a b : Int) (ha1 : -9223372036854775808 ≤ a) (ha2 : a ≤ 9223372036854775807) (hb1 : -9223372036854775808 ≤ b) (hb2 : b ≤ 9223372036854775807) : floR .add a b = addV a b := by
  unfold floR floatBits
  dsimp only
  unfold Ieee.Format.add
  rw [read_pat a ha1 ha2, read_pat b hb1 hb2]
  by_cases na : pNone a = true
  · rw [if_pos na, show addV a b = noNum by (unfold addV; rw [if_pos (Or.inl na)])]; rfl
  · by_cases nb : pNone b = true
    · rw [if_neg na, if_pos nb, show addV a b = noNum by (unfold addV; rw [if_pos (Or.inr (Or.inl nb))])]
      by_cases ia : pInf a = true
      · rw [if_pos ia]; rfl
      · rw [if_neg ia]; rfl
    · rw [if_neg na, if_neg nb]
      by_cases ia : pInf a = true <;> by_cases ib : pInf b = true
      · rw [if_pos ia, if_pos ib]
        by_cases hn : pNeg a = pNeg b
        · rw [show addV a b = a by (unfold addV; rw [if_neg (by simp [na, nb, hn]), if_pos ia])]
          simp only [Ieee.Datum.sum, hn, if_true, Option.map_some]
          show bitsOf (FloatKind.f64.format.word (pNeg b) FloatKind.f64.format.infRung) = a
          rw [f64_inf, bitsOf_word _ _ (by decide), ← hn]
          exact inf_is a ha1 ha2 ia
        · rw [show addV a b = noNum by (unfold addV; rw [if_pos (Or.inr (Or.inr ⟨ia, ib, hn⟩))])]
          simp [Ieee.Datum.sum, hn]
      · rw [if_pos ia, if_neg ib, show addV a b = a by (unfold addV; rw [if_neg (by simp [na, nb, ib]), if_pos ia])]
        show bitsOf (FloatKind.f64.format.word (pNeg a) FloatKind.f64.format.infRung) = a
        rw [f64_inf, bitsOf_word _ _ (by decide)]
        exact inf_is a ha1 ha2 ia
      · rw [if_neg ia, if_pos ib, show addV a b = b by (unfold addV; rw [if_neg (by simp [na, nb, ia]), if_neg ia, if_pos ib])]
        show bitsOf (FloatKind.f64.format.word (pNeg b) FloatKind.f64.format.infRung) = b
        rw [f64_inf, bitsOf_word _ _ (by decide)]
        exact inf_is b hb1 hb2 ib
      · rw [if_neg ia, if_neg ib, show addV a b = finAdd a b by (unfold addV; rw [if_neg (by simp [na, nb, ia]), if_neg ia, if_neg ib]), sum_fin]
        show bitsOf (FloatKind.f64.format.nearest _ _ _) = _
        rw [bitsOf_nearest]
        exact fin_link a b
end Go.Proofs.Yteepkghjphmegaa
