/- cutting a float toward 0 -/
import Derived.Test.YteepkghjphmegabM2
namespace Go.Proofs.Yteepkghjphmegab
open Go.ChangeShapes Go.WideShapes Go.ChangeAt Go.RowKit
set_option linter.unusedVariables false
set_option linter.unusedSimpArgs false

theorem cut_zero (neg : Bool) (m : Nat) (e : Int) : ((Ieee.Toward.zero.cut neg (m <<< e.toNat) (-e).toNat : Nat) : Int) = flV m (-e) := by
  unfold Ieee.Toward.cut
  dsimp only
  simp only [Bool.toNat_false, Nat.add_zero]
  unfold flV
  by_cases h : 0 ≤ -e
  · have e0 : e.toNat = 0 := by omega
    rw [if_pos h, e0, Nat.shiftLeft_zero, Nat.one_shiftLeft]
    by_cases hb : (-e).toNat ≤ m.log2 + 2
    · rw [Nat.min_eq_left hb]; simp
    · have hmin : min (-e).toNat (m.log2 + 2) = m.log2 + 2 := by omega
      have hlt : m < 2 ^ (m.log2 + 1) := Nat.lt_log2_self
      have h2 : 2 ^ (m.log2 + 2) = 2 * 2 ^ (m.log2 + 1) := by rw [Nat.pow_succ]; omega
      have hle : 2 ^ (m.log2 + 2) ≤ 2 ^ (-e).toNat := Nat.pow_le_pow_right (by decide) (by omega)
      rw [hmin, Nat.div_eq_of_lt (by omega)]
      have hz : (m : Int) / 2 ^ (-e).toNat = 0 := Int.ediv_eq_zero_of_lt (by omega) (by
        have : m < 2 ^ (-e).toNat := by omega
        exact_mod_cast this)
      rw [hz]; rfl
  · have e1 : (-e).toNat = 0 := by omega
    have e2 : (- -e).toNat = e.toNat := by omega
    rw [if_neg h, e1, Nat.zero_min, Nat.one_shiftLeft, shl_pow, e2]; simp
theorem pat_wrap (n : Nat) (h : n < 18446744073709551616) : pat (wrap64 (n : Int)) = n := by
  have := pat_cast (wrap64 (n : Int))
  unfold wrap64 at *
  omega
theorem nearest_lt64 (neg : Bool) (N : Nat) (e : Int) : FloatKind.f64.format.nearest neg N e < 18446744073709551616 := FloatKind.f64.format.nearest_lt neg N e
theorem nearest_pat (neg : Bool) (N : Nat) (e : Int) : FloatKind.f64.format.nearest neg N e = pat (rndV neg N e false) := by
  rw [rnd_nearest, pat_wrap _ (nearest_lt64 neg N e)]
theorem wrap_range (n : Int) : -9223372036854775808 ≤ wrap64 n ∧ wrap64 n ≤ 9223372036854775807 := by unfold wrap64; omega
theorem rnd_range (neg : Bool) (N : Nat) (e : Int) : -9223372036854775808 ≤ rndV neg N e false ∧ rndV neg N e false ≤ 9223372036854775807 := by rw [rnd_nearest]; exact wrap_range _
def toFloV (n : Int) : Int := rndV (decide (n < 0)) (n.natAbs : Int) 0 false
theorem floatOfInt_bits (n : Int) : bitsOf (floatOfInt .f64 n) = toFloV n := by
  show bitsOf (FloatKind.f64.format.nearest (decide (n < 0)) n.natAbs 0) = _
  rw [bitsOf_nearest]; rfl

/-- the whole part -/
def truncV (a : Int) : Int := if pInf a = true then a else rndV (pNeg a) (flV (pWhole a) (-(pExp a))) 0 false
theorem trunc_num (a : Int) : FloatKind.f64.encode ((Ieee.Datum.number (pNeg a) (pWhole a).toNat (pExp a)).integral .zero) = pat (rndV (pNeg a) (flV (pWhole a) (-(pExp a))) 0 false) := by
  show FloatKind.f64.format.nearest (pNeg a) (Ieee.Toward.zero.cut (pNeg a) ((pWhole a).toNat <<< (pExp a).toNat) (-(pExp a)).toNat) 0 = _
  rw [nearest_pat, cut_zero, Int.toNat_of_nonneg (pWhole_bounds a).1]

/-- what a rounded whole number below 2^53 is made of -/
theorem rnd_small (neg : Bool) (M : Int) (h0 : 0 < M) (h1 : M < 9007199254740992) :
    ∃ h : Nat, h ≤ 52 ∧ 2 ^ h ≤ M ∧ M < 2 ^ (h + 1) ∧ rndV neg M 0 false = signedV neg (((h : Int) + 1022) * 4503599627370496 + M * 2 ^ (52 - h)) ∧ 4503599627370496 ≤ M * 2 ^ (52 - h) ∧ M * 2 ^ (52 - h) < 9007199254740992 := by
  obtain ⟨l1, l2⟩ := log_boundsM M h0
  have hl52 : M.toNat.log2 ≤ 52 := by
    by_cases h : M.toNat.log2 ≤ 52
    · exact h
    · have : (2 : Int) ^ 53 ≤ 2 ^ M.toNat.log2 := pow_le_pow (by omega)
      rw [pow53] at this; omega
  have hp := pow_pos' (52 - M.toNat.log2)
  have m1 := Int.mul_le_mul_of_nonneg_right l1 (Int.le_of_lt hp)
  have m2 := Int.mul_lt_mul_of_pos_right l2 hp
  rw [← Int.pow_add, show M.toNat.log2 + (52 - M.toNat.log2) = 52 by omega, pow52] at m1
  rw [← Int.pow_add, show M.toNat.log2 + 1 + (52 - M.toNat.log2) = 53 by omega, pow53] at m2
  refine ⟨M.toNat.log2, hl52, l1, l2, ?_, m1, m2⟩
  unfold rndV
  rw [if_neg (by omega)]
  have hlow : lowV (M.toNat.log2 : Int) 0 = (M.toNat.log2 : Int) - 52 := by unfold lowV; omega
  unfold rungV
  rw [hlow]
  have hu : upB M ((M.toNat.log2 : Int) - 52) false = false := by unfold upB atV; rw [if_pos (by omega)]; rfl
  have hfl : flV M ((M.toNat.log2 : Int) - 52) = M * 2 ^ (52 - M.toNat.log2) := by
    unfold flV
    by_cases hz : M.toNat.log2 = 52
    · rw [hz, if_pos (by omega)]; simp
    · rw [if_neg (by omega), show (-((M.toNat.log2 : Int) - 52)).toNat = 52 - M.toNat.log2 by omega]
  rw [hu, hfl]
  congr 1
  simp
  omega
theorem rg_signed (neg : Bool) (r : Int) (h0 : 0 ≤ r) (h1 : r < 9223372036854775808) : rg (signedV neg r) = r ∧ pNeg (signedV neg r) = neg := by
  unfold rg pNeg signedV
  cases neg
  · simp; omega
  · simp; omega
theorem order_link (a b : Int) (ha1 : -9223372036854775808 ≤ a) (ha2 : a ≤ 9223372036854775807) (hb1 : -9223372036854775808 ≤ b) (hb2 : b ≤ 9223372036854775807) (na : pNone a = false) (nb : pNone b = false) :
    (FloatKind.f64.format.order (pat a) (pat b) == some Ordering.gt || FloatKind.f64.format.order (pat a) (pat b) == some Ordering.eq) = decide (ordV b ≤ ordV a) := by
  have hl := less_link a b ha1 ha2 hb1 hb2
  unfold lessB lessV at hl
  rw [na, nb] at hl
  simp only [Bool.not_false, Bool.true_and] at hl
  have hs : ∃ o, FloatKind.f64.format.order (pat a) (pat b) = some o := by
    unfold Ieee.Format.order
    rw [read_pat a ha1 ha2, read_pat b hb1 hb2]
    by_cases ia : pInf a = true <;> by_cases ib : pInf b = true <;> simp [na, nb, ia, ib, Ieee.Datum.order]
  obtain ⟨o, ho⟩ := hs
  rw [ho] at hl ⊢
  have hd : decide (ordV b ≤ ordV a) = !decide (ordV a < ordV b) := by
    by_cases h : ordV a < ordV b
    · rw [decide_eq_true h, decide_eq_false (by omega)]; rfl
    · rw [decide_eq_false h, decide_eq_true (by omega)]; rfl
  rw [hd, ← hl]
  cases o <;> rfl

/-! ### the fixnum of a float -/
def okV (a : Int) : Bool := !pNone a && !pInf a && (decide (pExp a ≤ 7) || (decide (pExp a = 8) && pNeg a && decide (pWhole a = 4503599627370496)))
def nV (a : Int) : Int := if okV a = true then sg (pNeg a) (flV (pWhole a) (-(pExp a))) else 0
theorem pat_least : pat (-4345973640412528640) = 14100770433297022976 := by decide
theorem pat_most : pat 4877398396442247168 = 4877398396442247168 := by decide
theorem ord_least : ordV (-4345973640412528640) = -4877398396442247168 := by decide
theorem ord_most : ordV 4877398396442247168 = 4877398396442247168 := by decide
theorem sg_abs (neg : Bool) (r : Int) (h0 : 0 ≤ r) (h1 : r < 9223372036854775808) : ordV (signedV neg r) = sg neg r := by
  obtain ⟨e1, e2⟩ := rg_signed neg r h0 h1
  unfold ordV sg; rw [e1, e2]
theorem ordV_sg (a : Int) : ordV a = sg (pNeg a) (rg a) := rfl
/-- what the whole part is, as a pattern: no number, infinite, or a whole number; whether it is in range; which number it is -/
theorem trunc_facts (a : Int) (h1 : -9223372036854775808 ≤ a) (h2 : a ≤ 9223372036854775807) (na : pNone a = false) :
    (-9223372036854775808 ≤ truncV a ∧ truncV a ≤ 9223372036854775807) ∧ pNone (truncV a) = false ∧
    (okV a = true ↔ (-4877398396442247168 ≤ ordV (truncV a) ∧ ordV (truncV a) < 4877398396442247168)) ∧
    (okV a = true → floatToIntVal .f64 (pat (truncV a)) .i64 = some (nV a)) := by
  have hr := rg_bounds a
  have hw := pWhole_bounds a
  have he := pExp_bounds a
  by_cases ia : pInf a = true
  · have ht : truncV a = a := by unfold truncV; rw [if_pos ia]
    have hk : okV a = false := by unfold okV; simp [ia]
    have hg : rg a = 9218868437227405312 := by unfold pInf at ia; rw [decide_eq_true_eq] at ia; exact ia
    rw [ht, hk]
    refine ⟨⟨h1, h2⟩, na, ?_, fun h => by cases h⟩
    rw [ordV_sg, hg]; unfold sg
    cases pNeg a <;> simp
  · have ia' := Bool.eq_false_iff.mpr ia
    have hf : rg a < 9218868437227405312 := by
      unfold pInf at ia'; unfold pNone at na
      rw [decide_eq_false_iff_not] at ia' na; omega
    have ht : truncV a = rndV (pNeg a) (flV (pWhole a) (-(pExp a))) 0 false := by unfold truncV; rw [if_neg ia]
    have hok : okV a = (decide (pExp a ≤ 7) || (decide (pExp a = 8) && pNeg a && decide (pWhole a = 4503599627370496))) := by unfold okV; simp [na, ia']
    by_cases hneg : 0 ≤ pExp a
    · have hM : flV (pWhole a) (-(pExp a)) = pWhole a * 2 ^ (pExp a).toNat := by
        unfold flV
        by_cases hz : pExp a = 0
        · rw [hz]; simp
        · rw [if_neg (by omega)]; congr 3; omega
      have hta : truncV a = a := by
        rw [ht, hM]
        have hs := rnd_scale (pNeg a) (pWhole a) (pExp a) (pExp a).toNat hw.1
        rw [show pExp a - ((pExp a).toNat : Int) = 0 by omega] at hs
        rw [hs]; exact rnd_exact a h1 h2 hf
      have hnorm : ¬ rg a < 4503599627370496 := by
        intro c; unfold pExp at hneg; rw [if_pos c] at hneg; omega
      have eE : pExp a = rg a / 4503599627370496 - 1075 := by unfold pExp; rw [if_neg hnorm, if_pos hf]
      have eW : pWhole a = rg a % 4503599627370496 + 4503599627370496 := by unfold pWhole; rw [if_neg hnorm, if_pos hf]
      rw [hta]
      refine ⟨⟨h1, h2⟩, na, ?_, ?_⟩
      · rw [hok, ordV_sg, eE, eW]; unfold sg
        cases pNeg a
        · simp; omega
        · simp; omega
      · intro hk
        have hnv : nV a = sg (pNeg a) (pWhole a * 2 ^ (pExp a).toNat) := by unfold nV; rw [if_pos hk, hM]
        unfold floatToIntVal
        have hd : FloatKind.f64.decode (pat a) = .number (pNeg a) (pWhole a).toNat (pExp a) := by
          show FloatKind.f64.format.read (pat a) = _
          rw [read_pat a h1 h2, if_neg (by simp [na]), if_neg ia]
        have hti : (FloatKind.f64.decode (pat a)).toInt .zero = some (nV a) := by
          rw [hd]
          show some (Ieee.signed (pNeg a) (Ieee.Toward.zero.cut (pNeg a) ((pWhole a).toNat <<< (pExp a).toNat) (-(pExp a)).toNat) 0) = _
          have hc := cut_zero (pNeg a) (pWhole a).toNat (pExp a)
          rw [Int.toNat_of_nonneg hw.1, hM] at hc
          rw [hnv]
          unfold Ieee.signed sg
          rw [Nat.shiftLeft_zero, hc]
        rw [hti]
        have hle : pWhole a * 2 ^ (pExp a).toNat ≤ 1152921504606846976 := by
          rw [hok] at hk
          simp only [Bool.or_eq_true, Bool.and_eq_true, decide_eq_true_eq] at hk
          rcases hk with hk | ⟨⟨hk, _⟩, hw2⟩
          · have hp : (2 : Int) ^ (pExp a).toNat ≤ 2 ^ 7 := pow_le_pow (by omega)
            have hp0 := pow_pos' (pExp a).toNat
            have m1 := Int.mul_le_mul_of_nonneg_left hp hw.1
            have : (2 : Int) ^ 7 = 128 := by decide
            rw [this] at m1; omega
          · rw [hk, hw2]; decide
        have hge : 0 ≤ pWhole a * 2 ^ (pExp a).toNat := Int.mul_nonneg hw.1 (Int.le_of_lt (pow_pos' _))
        dsimp only
        rw [if_pos]
        rw [hnv]
        have hmin : IntKind.min .i64 = -9223372036854775808 := by decide
        have hmax : IntKind.max .i64 = 9223372036854775807 := by decide
        rw [hmin, hmax]
        unfold sg
        cases pNeg a <;> simp <;> omega
    · have hM : flV (pWhole a) (-(pExp a)) = pWhole a / 2 ^ (-(pExp a)).toNat := by unfold flV; rw [if_pos (by omega)]
      obtain ⟨M, hMM⟩ : ∃ M, M = flV (pWhole a) (-(pExp a)) := ⟨_, rfl⟩
      have hM0 : 0 ≤ M := by rw [hMM]; exact flV_nonneg _ _ hw.1
      have hM1 : M < 9007199254740992 := by
        rw [hMM, hM]; exact Int.lt_of_le_of_lt (Int.ediv_le_self _ hw.1) hw.2
      have hk : okV a = true := by rw [hok]; simp; left; omega
      have hnv : nV a = sg (pNeg a) M := by unfold nV; rw [if_pos hk, hMM]
      rw [ht, hk, hnv, ← hMM]
      have hmin : IntKind.min .i64 = -9223372036854775808 := by decide
      have hmax : IntKind.max .i64 = 9223372036854775807 := by decide
      by_cases hz : M = 0
      · rw [hz, rnd_zero]
        obtain ⟨e1, e2⟩ := rg_signed (pNeg a) 0 (by omega) (by omega)
        have hord := sg_abs (pNeg a) 0 (by omega) (by omega)
        rw [hord]
        refine ⟨by unfold signedV; cases pNeg a <;> simp, by unfold pNone; rw [e1]; decide, by unfold sg; cases pNeg a <;> simp, fun _ => ?_⟩
        cases pNeg a <;> decide
      · obtain ⟨h, hh, hb1, hb2, hv, hl, hu⟩ := rnd_small (pNeg a) M (by omega) hM1
        rw [hv]
        generalize hR : ((h : Int) + 1022) * 4503599627370496 + M * 2 ^ (52 - h) = R at *
        have hR0 : 4503599627370496 ≤ R := by omega
        have hR1 : R < 4877398396442247168 := by omega
        obtain ⟨e1, e2⟩ := rg_signed (pNeg a) R (by omega) (by omega)
        have hord := sg_abs (pNeg a) R (by omega) (by omega)
        have hrange : -9223372036854775808 ≤ signedV (pNeg a) R ∧ signedV (pNeg a) R ≤ 9223372036854775807 := by unfold signedV; cases pNeg a <;> simp <;> omega
        have hn2 : pNone (signedV (pNeg a) R) = false := by unfold pNone; rw [e1, decide_eq_false_iff_not]; omega
        have hi2 : pInf (signedV (pNeg a) R) = false := by unfold pInf; rw [e1, decide_eq_false_iff_not]; omega
        have hW2 : pWhole (signedV (pNeg a) R) = M * 2 ^ (52 - h) := by unfold pWhole; rw [e1, if_neg (by omega), if_pos (by omega)]; omega
        have hE2 : pExp (signedV (pNeg a) R) = (h : Int) - 52 := by unfold pExp; rw [e1, if_neg (by omega), if_pos (by omega)]; omega
        refine ⟨hrange, hn2, ?_, fun _ => ?_⟩
        · rw [hord]; unfold sg; cases pNeg a <;> simp <;> omega
        · unfold floatToIntVal
          have hd : FloatKind.f64.decode (pat (signedV (pNeg a) R)) = .number (pNeg a) (M * 2 ^ (52 - h)).toNat ((h : Int) - 52) := by
            show FloatKind.f64.format.read (pat (signedV (pNeg a) R)) = _
            rw [read_pat _ hrange.1 hrange.2, if_neg (by simp [hn2]), if_neg (by simp [hi2]), e2, hW2, hE2]
          have hti : (FloatKind.f64.decode (pat (signedV (pNeg a) R))).toInt .zero = some (sg (pNeg a) M) := by
            rw [hd]
            show some (Ieee.signed (pNeg a) (Ieee.Toward.zero.cut (pNeg a) ((M * 2 ^ (52 - h)).toNat <<< ((h : Int) - 52).toNat) (-((h : Int) - 52)).toNat) 0) = _
            have hc := cut_zero (pNeg a) (M * 2 ^ (52 - h)).toNat ((h : Int) - 52)
            rw [Int.toNat_of_nonneg (by omega)] at hc
            have hs := flV_scale M 0 (52 - h)
            rw [show (0 : Int) + ((52 - h : Nat) : Int) = -((h : Int) - 52) by omega] at hs
            have hf0 : flV M 0 = M := by unfold flV; simp
            rw [hs, hf0] at hc
            unfold Ieee.signed sg
            rw [Nat.shiftLeft_zero, hc]
          rw [hti]
          dsimp only
          rw [if_pos]
          rw [hmin, hmax]
          unfold sg
          cases pNeg a <;> simp <;> omega
end Go.Proofs.Yteepkghjphmegab
