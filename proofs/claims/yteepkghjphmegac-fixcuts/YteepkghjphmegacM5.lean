/- floats: signs, and what leaves a number as it is -/
import Derived.Test.YteepkghjphmegacM4
namespace Go.Proofs.Yteepkghjphmegac
open Go.ChangeShapes Go.WideShapes Go.ChangeAt Go.RowKit
set_option linter.unusedVariables false
set_option linter.unusedSimpArgs false

theorem lowE_comm (a b : Int) : lowE a b = lowE b a := by unfold lowE; omega
theorem fin_comm (a b : Int) : finAdd b a = finAdd a b := by
  have h1 := mag_swap a b
  unfold finAdd
  rw [lowE_comm b a, ← h1.1, ← h1.2]
  by_cases hs : pNeg a = pNeg b
  · rw [if_pos hs, if_pos hs.symm, hs, Int.add_comm]
  · rw [if_neg hs, if_neg (fun h => hs h.symm)]
    by_cases he : magL a b = magR a b
    · rw [if_pos he, if_pos he.symm]
    · rw [if_neg he, if_neg (fun h => he h.symm)]
      by_cases hl : magR a b < magL a b
      · rw [if_pos hl, if_neg (by omega)]
      · rw [if_neg hl, if_pos (by omega)]
theorem add_comm_flo (a b : Int) (ha1 : -9223372036854775808 ≤ a) (ha2 : a ≤ 9223372036854775807) (hb1 : -9223372036854775808 ≤ b) (hb2 : b ≤ 9223372036854775807) : floR .add b a = floR .add a b := by
  rw [add_link a b ha1 ha2 hb1 hb2, add_link b a hb1 hb2 ha1 ha2]
  by_cases na : pNone a = true
  · unfold addV; rw [if_pos (.inr (.inl na)), if_pos (.inl na)]
  · by_cases nb : pNone b = true
    · unfold addV; rw [if_pos (.inl nb), if_pos (.inr (.inl nb))]
    · by_cases ia : pInf a = true <;> by_cases ib : pInf b = true
      · by_cases hs : pNeg a = pNeg b
        · have e1 := inf_is a ha1 ha2 ia
          have e2 := inf_is b hb1 hb2 ib
          rw [hs] at e1
          have hab : a = b := e1.symm.trans e2
          rw [hab]
        · have hs' : ¬ pNeg b = pNeg a := fun h => hs h.symm
          unfold addV
          simp [na, nb, ia, ib, hs, hs']
      · unfold addV; simp [na, nb, ia, ib]
      · unfold addV; simp [na, nb, ia, ib]
      · unfold addV; simp [na, nb, ia, ib, fin_comm]
theorem mul_comm_flo (a b : Int) (ha1 : -9223372036854775808 ≤ a) (ha2 : a ≤ 9223372036854775807) (hb1 : -9223372036854775808 ≤ b) (hb2 : b ≤ 9223372036854775807) : floR .mul b a = floR .mul a b := by
  rw [mul_link a b ha1 ha2 hb1 hb2, mul_link b a hb1 hb2 ha1 ha2]
  have hs : (pNeg b != pNeg a) = (pNeg a != pNeg b) := by cases pNeg a <;> cases pNeg b <;> rfl
  unfold mulM
  rw [hs, Int.mul_comm (pWhole b), Int.add_comm (pExp b)]
  by_cases na : pNone a = true <;> by_cases nb : pNone b = true <;> by_cases ia : pInf a = true <;> by_cases ib : pInf b = true <;> simp [na, nb, ia, ib]
theorem fin_of (a : Int) (na : pNone a = false) (ia : pInf a = false) : rg a < 9218868437227405312 := by
  unfold pInf at ia; unfold pNone at na
  rw [decide_eq_false_iff_not] at ia na; omega
theorem canon_num (a : Int) (na : pNone a = false) : canonV a = a := by unfold canonV; rw [if_neg (by simp [na])]
theorem canon_none (a : Int) (na : pNone a = true) : canonV a = noNum := by unfold canonV; rw [if_pos na]
theorem one_parts : pNone 4607182418800017408 = false ∧ pInf 4607182418800017408 = false ∧ pNeg 4607182418800017408 = false ∧ pWhole 4607182418800017408 = 4503599627370496 ∧ pExp 4607182418800017408 = -52 := by decide
theorem two_parts : pNone 4611686018427387904 = false ∧ pInf 4611686018427387904 = false ∧ pNeg 4611686018427387904 = false ∧ pWhole 4611686018427387904 = 4503599627370496 ∧ pExp 4611686018427387904 = -51 := by decide
theorem mz_parts : pNone (-9223372036854775808) = false ∧ pInf (-9223372036854775808) = false ∧ pNeg (-9223372036854775808) = true ∧ pWhole (-9223372036854775808) = 0 ∧ pExp (-9223372036854775808) = -1074 := by decide
theorem bne_false' (x : Bool) : (x != false) = x := by cases x <;> rfl
theorem p120 : (2 : Int) ^ 120 = 2 ^ 52 * 2 ^ 68 := by decide
theorem mul_one_flo (a : Int) (h1 : -9223372036854775808 ≤ a) (h2 : a ≤ 9223372036854775807) : floR .mul a 4607182418800017408 = canonV a := by
  obtain ⟨o1, o2, o3, o4, o5⟩ := one_parts
  rw [mul_link a _ h1 h2 (by omega) (by omega)]
  unfold mulM
  rw [o1, o2, o3, o4, o5, bne_false']
  by_cases na : pNone a = true
  · rw [if_pos (.inl na), canon_none a na]
  · have na' := Bool.eq_false_iff.mpr na
    rw [canon_num a na']
    by_cases ia : pInf a = true
    · rw [if_neg (by simp [na', ia]), if_pos (.inl ia)]; exact inf_is a h1 h2 ia
    · have ia' := Bool.eq_false_iff.mpr ia
      rw [if_neg (by simp [na', ia']), if_neg (by simp [ia'])]
      have hs := rnd_scale (pNeg a) (pWhole a) (pExp a) 52 (pWhole_bounds a).1
      rw [pow52] at hs
      rw [show pExp a + -52 = pExp a - ((52 : Nat) : Int) by omega, hs]
      exact rnd_exact a h1 h2 (fin_of a na' ia')
theorem div_one_flo (a : Int) (h1 : -9223372036854775808 ≤ a) (h2 : a ≤ 9223372036854775807) : floR .quo a 4607182418800017408 = canonV a := by
  obtain ⟨o1, o2, o3, o4, o5⟩ := one_parts
  rw [div_link a _ h1 h2 (by omega) (by omega)]
  unfold divV
  rw [o1, o2, o3, o4, o5, bne_false']
  by_cases na : pNone a = true
  · rw [if_pos (.inl na), canon_none a na]
  · have na' := Bool.eq_false_iff.mpr na
    rw [canon_num a na']
    by_cases ia : pInf a = true
    · rw [if_neg (by simp [na', ia]), if_pos (.inl ia)]; exact inf_is a h1 h2 ia
    · have ia' := Bool.eq_false_iff.mpr ia
      rw [if_neg (by simp [na', ia']), if_neg (by simp [ia']), if_neg (by simp)]
      have e : pWhole a * 2 ^ 120 = pWhole a * 2 ^ 68 * 4503599627370496 := by rw [p120, pow52, Int.mul_assoc, Int.mul_comm (4503599627370496 : Int)]
      rw [e, Int.mul_ediv_cancel _ (by omega), Int.mul_emod_left]
      have hs := rnd_scale (pNeg a) (pWhole a) (pExp a) 68 (pWhole_bounds a).1
      rw [show pExp a - -52 - 120 = pExp a - ((68 : Nat) : Int) by omega]
      simp only [Int.lt_irrefl, decide_false]
      rw [hs]
      exact rnd_exact a h1 h2 (fin_of a na' ia')
theorem mag_self (a : Int) : magL a a = pWhole a ∧ magR a a = pWhole a ∧ lowE a a = pExp a := by
  have hl : lowE a a = pExp a := by unfold lowE; omega
  unfold magL magR
  rw [hl]
  have e : (pExp a - pExp a).toNat = 0 := by omega
  rw [e]; simp
theorem mul_two_flo (a : Int) (h1 : -9223372036854775808 ≤ a) (h2 : a ≤ 9223372036854775807) : floR .mul a 4611686018427387904 = floR .add a a := by
  obtain ⟨o1, o2, o3, o4, o5⟩ := two_parts
  rw [mul_link a _ h1 h2 (by omega) (by omega), add_link a a h1 h2 h1 h2]
  unfold mulM addV
  rw [o1, o2, o3, o4, o5, bne_false']
  by_cases na : pNone a = true
  · rw [if_pos (.inl na), if_pos (.inl na)]
  · have na' := Bool.eq_false_iff.mpr na
    by_cases ia : pInf a = true
    · rw [if_neg (by simp [na', ia]), if_pos (.inl ia), if_neg (by simp [na']), if_pos ia]; exact inf_is a h1 h2 ia
    · have ia' := Bool.eq_false_iff.mpr ia
      rw [if_neg (by simp [na', ia']), if_neg (by simp [ia']), if_neg (by simp [na']), if_neg ia, if_neg ia]
      obtain ⟨m1, m2, m3⟩ := mag_self a
      unfold finAdd
      rw [if_pos rfl, m1, m2, m3]
      have hs := rnd_scale (pNeg a) (pWhole a) (pExp a + 1) 52 (pWhole_bounds a).1
      have ht := rnd_scale (pNeg a) (pWhole a) (pExp a + 1) 1 (pWhole_bounds a).1
      rw [pow52] at hs
      rw [show pExp a + -51 = pExp a + 1 - ((52 : Nat) : Int) by omega, hs, ← ht]
      congr 1
      · simp; omega
      · omega
theorem add_mz_flo (a : Int) (h1 : -9223372036854775808 ≤ a) (h2 : a ≤ 9223372036854775807) : floR .add a (-9223372036854775808) = canonV a := by
  obtain ⟨o1, o2, o3, o4, o5⟩ := mz_parts
  rw [add_link a _ h1 h2 (by omega) (by omega)]
  unfold addV
  rw [o1, o2, o3]
  by_cases na : pNone a = true
  · rw [if_pos (.inl na), canon_none a na]
  · have na' := Bool.eq_false_iff.mpr na
    rw [canon_num a na']
    by_cases ia : pInf a = true
    · rw [if_neg (by simp [na']), if_pos ia]
    · have ia' := Bool.eq_false_iff.mpr ia
      rw [if_neg (by simp [na']), if_neg ia, if_neg (by simp)]
      have he := pExp_bounds a
      have hl : lowE a (-9223372036854775808) = -1074 := by unfold lowE; rw [o5]; omega
      have hR : magR a (-9223372036854775808) = 0 := by unfold magR; rw [o4, Int.zero_mul]
      have hL : magL a (-9223372036854775808) = pWhole a * 2 ^ (pExp a + 1074).toNat := by unfold magL; rw [hl]; congr 3
      have hex : rndV (pNeg a) (magL a (-9223372036854775808)) (-1074) false = a := by
        have hs := rnd_scale (pNeg a) (pWhole a) (pExp a) (pExp a + 1074).toNat (pWhole_bounds a).1
        rw [hL, show (-1074 : Int) = pExp a - ((pExp a + 1074).toNat : Int) by omega, hs]
        exact rnd_exact a h1 h2 (fin_of a na' ia')
      have h0 := (mag_nonneg a (-9223372036854775808)).1
      unfold finAdd
      rw [o3, hl, hR, Int.add_zero, Int.sub_zero]
      by_cases hn : pNeg a = true
      · rw [if_pos hn]; exact hex
      · rw [if_neg hn]
        by_cases hz : magL a (-9223372036854775808) = 0
        · rw [if_pos hz]
          rw [hz, rnd_zero] at hex
          have hn' := Bool.eq_false_iff.mpr hn
          rw [hn'] at hex
          exact hex
        · rw [if_neg hz, if_pos (by omega)]; exact hex

theorem flip_zero : flipV 0 = -9223372036854775808 := by unfold flipV wrap64; omega
theorem flip_parts (b : Int) : pNone (flipV b) = pNone b ∧ pInf (flipV b) = pInf b ∧ pWhole (flipV b) = pWhole b ∧ pExp (flipV b) = pExp b := by
  unfold pNone pInf pWhole pExp; rw [flip_rg]; simp
theorem sub_zero_flo (a : Int) (h1 : -9223372036854775808 ≤ a) (h2 : a ≤ 9223372036854775807) : floR .sub a 0 = canonV a := by
  rw [sub_link a 0 h1 h2 (by omega) (by omega), flip_zero, ← add_link a _ h1 h2 (by omega) (by omega)]
  exact add_mz_flo a h1 h2
theorem sub_flip_flo (a b : Int) (ha1 : -9223372036854775808 ≤ a) (ha2 : a ≤ 9223372036854775807) (hb1 : -9223372036854775808 ≤ b) (hb2 : b ≤ 9223372036854775807) : floR .sub a b = floR .add a (flipV b) := by
  rw [sub_link a b ha1 ha2 hb1 hb2, add_link a _ ha1 ha2 (flip_bounds b).1 (flip_bounds b).2]
theorem sub_self_flo (a : Int) (h1 : -9223372036854775808 ≤ a) (h2 : a ≤ 9223372036854775807) (hf : rg a < 9218868437227405312) : floR .sub a a = 0 := by
  have na : pNone a = false := by unfold pNone; rw [decide_eq_false_iff_not]; omega
  have ia : pInf a = false := by unfold pInf; rw [decide_eq_false_iff_not]; omega
  obtain ⟨f1, f2, f3, f4⟩ := flip_parts a
  have fn := flip_neg a h1 h2
  rw [sub_link a a h1 h2 h1 h2]
  unfold addV
  rw [f1, f2, if_neg (by simp [na, ia]), if_neg (by simp [ia]), if_neg (by simp [ia])]
  unfold finAdd
  rw [fn, if_neg (by cases pNeg a <;> simp)]
  have hm : magL a (flipV a) = magR a (flipV a) := rung_eq a (flipV a) (flip_rg a).symm
  rw [if_pos hm]
theorem div_self_flo (a : Int) (h1 : -9223372036854775808 ≤ a) (h2 : a ≤ 9223372036854775807) (hf : rg a < 9218868437227405312) (hz : rg a ≠ 0) : floR .quo a a = 4607182418800017408 := by
  have hr := rg_bounds a
  have na : pNone a = false := by unfold pNone; rw [decide_eq_false_iff_not]; omega
  have ia : pInf a = false := by unfold pInf; rw [decide_eq_false_iff_not]; omega
  have hw : 0 < pWhole a := by
    unfold pWhole
    by_cases c : rg a < 4503599627370496
    · rw [if_pos c]; omega
    · rw [if_neg c, if_pos hf]; omega
  rw [div_link a a h1 h2 h1 h2]
  unfold divV
  rw [if_neg (by simp [na, ia]; omega), if_neg (by simp [ia]; omega), if_neg (by simp [ia])]
  have e1 : pWhole a * 2 ^ 120 / pWhole a = 2 ^ 120 := Int.mul_ediv_cancel_left _ (by omega)
  have e2 : pWhole a * 2 ^ 120 % pWhole a = 0 := Int.mul_emod_right _ _
  have e3 : (pNeg a != pNeg a) = false := by simp
  rw [e1, e2, e3]
  obtain ⟨o1, o2, o3, o4, o5⟩ := one_parts
  have hs := rnd_scale false 4503599627370496 (-52) 68 (by omega)
  have hx := rnd_exact 4607182418800017408 (by omega) (by omega) (by decide)
  rw [o3, o4, o5] at hx
  rw [hx, ← pow52, ← p120] at hs
  simp only [Int.lt_irrefl, decide_false]
  rw [show pExp a - pExp a - 120 = -52 - ((68 : Nat) : Int) by omega]
  exact hs
theorem flip_signed (neg : Bool) (r : Int) (h0 : 0 ≤ r) (h1 : r < 9223372036854775808) : flipV (signedV neg r) = signedV (!neg) r := by
  unfold flipV signedV wrap64
  cases neg <;> simp <;> omega
theorem rung_range (N h e : Int) (m : Bool) (hN : 0 ≤ N) (hl : 0 ≤ lowV h e + e + 1074) : 0 ≤ rungV N h e m ∧ rungV N h e m ≤ 9218868437227405312 := by
  have := flV_nonneg N (lowV h e) hN
  unfold rungV
  split <;> omega
theorem rnd_as (neg : Bool) (N e : Int) (m : Bool) (hN : 0 ≤ N) : ∃ r, 0 ≤ r ∧ r ≤ 9218868437227405312 ∧ ∀ neg, rndV neg N e m = signedV neg r := by
  by_cases hz : N = 0
  · exact ⟨0, by omega, by omega, fun neg => by unfold rndV; rw [if_pos hz]⟩
  · obtain ⟨r0, r1⟩ := rung_range N (N.toNat.log2 : Int) e m hN (by unfold lowV; omega)
    exact ⟨_, r0, r1, fun neg => by unfold rndV; rw [if_neg hz]⟩
theorem canon_signed (neg : Bool) (r : Int) (h0 : 0 ≤ r) (h1 : r ≤ 9218868437227405312) : canonV (signedV neg r) = signedV neg r := by
  apply canon_num
  have : rg (signedV neg r) = r := by
    unfold rg signedV
    cases neg <;> simp <;> omega
  unfold pNone; rw [this, decide_eq_false_iff_not]; omega
theorem canon_flip_none : canonV (flipV noNum) = noNum := canon_none _ ((flip_parts noNum).1.trans (by decide))
theorem bne_flip_l (x y : Bool) : ((!x) != y) = !(x != y) := by cases x <;> cases y <;> rfl
theorem bne_flip_r (x y : Bool) : (x != (!y)) = !(x != y) := by cases x <;> cases y <;> rfl
theorem mul_flip_flo (a b : Int) (ha1 : -9223372036854775808 ≤ a) (ha2 : a ≤ 9223372036854775807) (hb1 : -9223372036854775808 ≤ b) (hb2 : b ≤ 9223372036854775807) : floR .mul (flipV a) b = canonV (flipV (floR .mul a b)) := by
  obtain ⟨f1, f2, f3, f4⟩ := flip_parts a
  have fn := flip_neg a ha1 ha2
  obtain ⟨g1, g2⟩ := flip_bounds a
  rw [mul_link a b ha1 ha2 hb1 hb2, mul_link (flipV a) b g1 g2 hb1 hb2]
  unfold mulM
  rw [f1, f2, f3, f4, fn, bne_flip_l]
  split
  · exact canon_flip_none.symm
  · split
    · rw [flip_signed _ _ (by omega) (by omega), canon_signed _ _ (by omega) (by omega)]
    · obtain ⟨r, r0, r1, hr⟩ := rnd_as true (pWhole a * pWhole b) (pExp a + pExp b) false (Int.mul_nonneg (pWhole_bounds a).1 (pWhole_bounds b).1)
      rw [hr, hr, flip_signed _ _ r0 (by omega), canon_signed _ _ r0 r1]
theorem div_flip_flo (a b : Int) (ha1 : -9223372036854775808 ≤ a) (ha2 : a ≤ 9223372036854775807) (hb1 : -9223372036854775808 ≤ b) (hb2 : b ≤ 9223372036854775807) : floR .quo a (flipV b) = canonV (flipV (floR .quo a b)) := by
  obtain ⟨f1, f2, f3, f4⟩ := flip_parts b
  have fn := flip_neg b hb1 hb2
  obtain ⟨g1, g2⟩ := flip_bounds b
  rw [div_link a b ha1 ha2 hb1 hb2, div_link a (flipV b) ha1 ha2 g1 g2]
  unfold divV
  rw [f1, f2, f3, f4, fn, bne_flip_r]
  split
  · exact canon_flip_none.symm
  · split
    · rw [flip_signed _ _ (by omega) (by omega), canon_signed _ _ (by omega) (by omega)]
    · split
      · rw [flip_signed _ _ (by omega) (by omega), canon_signed _ _ (by omega) (by omega)]
      · obtain ⟨r, r0, r1, hr⟩ := rnd_as true (pWhole a * 2 ^ 120 / pWhole b) (pExp a - pExp b - 120) (decide (0 < pWhole a * 2 ^ 120 % pWhole b)) (Int.ediv_nonneg (Int.mul_nonneg (pWhole_bounds a).1 (by decide)) (pWhole_bounds b).1)
        rw [hr, hr, flip_signed _ _ r0 (by omega), canon_signed _ _ r0 r1]
end Go.Proofs.Yteepkghjphmegac
