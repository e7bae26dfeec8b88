/- reckoning keeps the order -/
import Derived.Test.YteepkghjphmegacM6
import Derived.Test.YteepkghjphmegacSg
namespace Go.Proofs.Yteepkghjphmegac
open Go.ChangeShapes Go.WideShapes Go.ChangeAt Go.RowKit
set_option linter.unusedVariables false
set_option linter.unusedSimpArgs false

/-- a finite float as a whole number of the least parts -/
def valM (a : Int) : Int := pWhole a * 2 ^ (pExp a + 1074).toNat
def valV (a : Int) : Int := sg (pNeg a) (valM a)
def rungO (N e : Int) (m : Bool) : Int := if N = 0 then 0 else rungV N (N.toNat.log2 : Int) e m
theorem rungO_range (N e : Int) (m : Bool) (hN : 0 ≤ N) : 0 ≤ rungO N e m ∧ rungO N e m ≤ 9218868437227405312 := by
  unfold rungO
  split
  · omega
  · exact rung_range N _ e m hN (by unfold lowV; omega)
theorem rnd_rungO (neg : Bool) (N e : Int) (m : Bool) : rndV neg N e m = signedV neg (rungO N e m) := by
  unfold rndV rungO; split <;> rfl
theorem ord_signed (neg : Bool) (r : Int) (h0 : 0 ≤ r) (h1 : r ≤ 9218868437227405312) : ordV (signedV neg r) = sg neg r ∧ pNone (signedV neg r) = false := by
  have e1 : rg (signedV neg r) = r := by unfold rg signedV; cases neg <;> simp <;> omega
  have e2 : pNeg (signedV neg r) = neg := by unfold pNeg signedV; cases neg <;> simp <;> omega
  constructor
  · unfold ordV sg; rw [e1, e2]
  · unfold pNone; rw [e1, decide_eq_false_iff_not]; omega
theorem ord_rnd (neg : Bool) (N e : Int) (m : Bool) (hN : 0 ≤ N) : ordV (rndV neg N e m) = sg neg (rungO N e m) ∧ pNone (rndV neg N e m) = false := by
  rw [rnd_rungO]
  obtain ⟨r0, r1⟩ := rungO_range N e m hN
  exact ord_signed neg _ r0 r1
theorem rungO_mono (N N' e : Int) (m m' : Bool) (h0 : 0 ≤ N) (h : leM N m N' m') : rungO N e m ≤ rungO N' e m' := by
  have hle : N ≤ N' := by rcases h with h | h <;> omega
  unfold rungO
  by_cases hz : N = 0
  · rw [if_pos hz]
    split
    · omega
    · exact (rung_range N' _ e m' (by omega) (by unfold lowV; omega)).1
  · rw [if_neg hz, if_neg (by omega)]
    exact rung_mono N N' e m m' (by omega) h
theorem rungO_scale (N e : Int) (d : Nat) (hN : 0 ≤ N) : rungO (N * 2 ^ d) (e - d) false = rungO N e false := by
  have h := rnd_scale false N e d hN
  rw [rnd_rungO, rnd_rungO] at h
  simpa [signedV] using h
/-- a whole number of parts, rounded, in the order -/
def ordO (S e : Int) : Int := sg (decide (S < 0)) (rungO (S.natAbs : Int) e false)
theorem ordO_mono (S S' e : Int) (h : S ≤ S') : ordO S e ≤ ordO S' e := by
  unfold ordO sg
  have p1 := (rungO_range (S.natAbs : Int) e false (by omega)).1
  have p2 := (rungO_range (S'.natAbs : Int) e false (by omega)).1
  have lm : ∀ x y : Int, x ≤ y → leM x false y false := by
    intro x y hxy
    by_cases he : x = y
    · exact .inr ⟨he, fun q => q⟩
    · exact .inl (by omega)
  by_cases c1 : S < 0 <;> by_cases c2 : S' < 0
  · rw [decide_eq_true c1, decide_eq_true c2]
    have := rungO_mono (S'.natAbs : Int) (S.natAbs : Int) e false false (by omega) (lm _ _ (by omega))
    simp; omega
  · rw [decide_eq_true c1, decide_eq_false c2]; simp; omega
  · omega
  · rw [decide_eq_false c1, decide_eq_false c2]
    have := rungO_mono (S.natAbs : Int) (S'.natAbs : Int) e false false (by omega) (lm _ _ (by omega))
    simp; omega
theorem sg_scale (neg : Bool) (x p : Int) : sg neg (x * p) = sg neg x * p := by
  unfold sg; cases neg <;> simp [Int.neg_mul]
theorem val_mag (a b : Int) : valV a = sg (pNeg a) (magL a b) * 2 ^ (lowE a b + 1074).toNat ∧ valV b = sg (pNeg b) (magR a b) * 2 ^ (lowE a b + 1074).toNat := by
  have ea := pExp_bounds a
  have eb := pExp_bounds b
  have hl : lowE a b ≤ pExp a ∧ lowE a b ≤ pExp b ∧ -1074 ≤ lowE a b := by unfold lowE; omega
  unfold valV valM magL magR
  constructor
  · rw [← sg_scale, Int.mul_assoc, ← Int.pow_add]
    congr 3; omega
  · rw [← sg_scale, Int.mul_assoc, ← Int.pow_add]
    congr 3; omega
theorem val_mono (a b : Int) (ha : rg a < 9218868437227405312) (hb : rg b < 9218868437227405312) (h : ¬ ordV b < ordV a) : valV a ≤ valV b := by
  have hf := mt (fin_less b a hb ha).1 h
  obtain ⟨v1, v2⟩ := val_mag b a
  rw [v1, v2]
  exact Int.mul_le_mul_of_nonneg_right (by omega) (Int.le_of_lt (pow_pos' _))
theorem add_ord (a c : Int) (ha1 : -9223372036854775808 ≤ a) (ha2 : a ≤ 9223372036854775807) (hc1 : -9223372036854775808 ≤ c) (hc2 : c ≤ 9223372036854775807) (ha : rg a < 9218868437227405312) (hc : rg c < 9218868437227405312) :
    ordV (floR .add a c) = ordO (valV a + valV c) (-1074) ∧ pNone (floR .add a c) = false := by
  have na : pNone a = false := by unfold pNone; rw [decide_eq_false_iff_not]; omega
  have ia : pInf a = false := by unfold pInf; rw [decide_eq_false_iff_not]; omega
  have nc : pNone c = false := by unfold pNone; rw [decide_eq_false_iff_not]; omega
  have ic : pInf c = false := by unfold pInf; rw [decide_eq_false_iff_not]; omega
  have e : floR .add a c = finAdd a c := by
    rw [add_link a c ha1 ha2 hc1 hc2]; unfold addV; rw [if_neg (by simp [na, nc, ia]), if_neg (by simp [ia]), if_neg (by simp [ic])]
  rw [e, ← fin_link a c]
  obtain ⟨v1, v2⟩ := val_mag a c
  have hl : -1074 ≤ lowE a c := by have := pExp_bounds a; have := pExp_bounds c; unfold lowE; omega
  rw [v1, v2, ← Int.add_mul]
  generalize sg (pNeg a) (magL a c) + sg (pNeg c) (magR a c) = S
  obtain ⟨o1, o2⟩ := ord_rnd (if S = 0 then pNeg a && pNeg c else decide (S < 0)) (S.natAbs : Int) (lowE a c) false (by omega)
  refine ⟨?_, o2⟩
  rw [o1]
  have hp := pow_pos' (lowE a c + 1074).toNat
  have hs := rungO_scale (S.natAbs : Int) (lowE a c) (lowE a c + 1074).toNat (by omega)
  rw [show lowE a c - ((lowE a c + 1074).toNat : Int) = -1074 by omega] at hs
  unfold ordO
  have hab : ((S * 2 ^ (lowE a c + 1074).toNat).natAbs : Int) = (S.natAbs : Int) * 2 ^ (lowE a c + 1074).toNat := by
    rw [Int.natAbs_mul, Int.natCast_mul]; congr 1
  rw [hab, hs]
  by_cases hz : S = 0
  · rw [hz]; simp [rungO, sg]
  · rw [if_neg hz]
    have : decide (S * 2 ^ (lowE a c + 1074).toNat < 0) = decide (S < 0) := by
      apply decide_eq_decide.2
      constructor
      · intro h
        by_cases q : S < 0
        · exact q
        · have := Int.mul_nonneg (show 0 ≤ S by omega) (Int.le_of_lt hp); omega
      · intro h; exact Int.mul_neg_of_neg_of_pos h hp
    rw [this]
theorem not_less (x y : Int) (hx1 : -9223372036854775808 ≤ x) (hx2 : x ≤ 9223372036854775807) (hy1 : -9223372036854775808 ≤ y) (hy2 : y ≤ 9223372036854775807) (h : ordV y ≤ ordV x) : lessB x y = false := by
  rw [less_link x y hx1 hx2 hy1 hy2]; unfold lessV
  rw [decide_eq_false (by omega)]; simp
theorem grow_add (a b c : Int) (ha1 : -9223372036854775808 ≤ a) (ha2 : a ≤ 9223372036854775807) (hb1 : -9223372036854775808 ≤ b) (hb2 : b ≤ 9223372036854775807) (hc1 : -9223372036854775808 ≤ c) (hc2 : c ≤ 9223372036854775807)
    (ha : rg a < 9218868437227405312) (hb : rg b < 9218868437227405312) (hc : rg c < 9218868437227405312) (h : ¬ ordV b < ordV a) : lessB (floR .add b c) (floR .add a c) = false := by
  apply not_less _ _ (floR_range _ _ _).1 (floR_range _ _ _).2 (floR_range _ _ _).1 (floR_range _ _ _).2
  rw [(add_ord a c ha1 ha2 hc1 hc2 ha hc).1, (add_ord b c hb1 hb2 hc1 hc2 hb hc).1]
  apply ordO_mono
  have := val_mono a b ha hb h
  omega
theorem grow_sub (a b c : Int) (ha1 : -9223372036854775808 ≤ a) (ha2 : a ≤ 9223372036854775807) (hb1 : -9223372036854775808 ≤ b) (hb2 : b ≤ 9223372036854775807) (hc1 : -9223372036854775808 ≤ c) (hc2 : c ≤ 9223372036854775807)
    (ha : rg a < 9218868437227405312) (hb : rg b < 9218868437227405312) (hc : rg c < 9218868437227405312) (h : ¬ ordV b < ordV a) : lessB (floR .sub b c) (floR .sub a c) = false := by
  rw [sub_flip_flo a c ha1 ha2 hc1 hc2, sub_flip_flo b c hb1 hb2 hc1 hc2]
  exact grow_add a b (flipV c) ha1 ha2 hb1 hb2 (flip_bounds c).1 (flip_bounds c).2 ha hb (by rw [flip_rg]; exact hc) h
theorem sg_mono (a b : Int) (f : Int → Int) (hf : ∀ x y, 0 ≤ x → x ≤ y → f x ≤ f y) (h0 : ∀ x, 0 ≤ x → 0 ≤ f x) (h : valV a ≤ valV b) (hz : f 0 = 0) : sg (pNeg a) (f (valM a)) ≤ sg (pNeg b) (f (valM b)) := by
  have ma : 0 ≤ valM a := Int.mul_nonneg (pWhole_bounds a).1 (Int.le_of_lt (pow_pos' _))
  have mb : 0 ≤ valM b := Int.mul_nonneg (pWhole_bounds b).1 (Int.le_of_lt (pow_pos' _))
  have fa := h0 _ ma
  have fb := h0 _ mb
  unfold valV sg at h
  unfold sg
  revert h
  cases pNeg a <;> cases pNeg b <;> simp only [Bool.false_eq_true, if_false, if_true] <;> intro h
  · exact hf _ _ ma h
  · have e1 : valM a = 0 := by omega
    have e2 : valM b = 0 := by omega
    rw [e1, e2, hz]; omega
  · omega
  · have := hf _ _ mb (show valM b ≤ valM a by omega); omega
theorem mul_ord (a c : Int) (ha1 : -9223372036854775808 ≤ a) (ha2 : a ≤ 9223372036854775807) (hc1 : -9223372036854775808 ≤ c) (hc2 : c ≤ 9223372036854775807) (ha : rg a < 9218868437227405312) (hc : rg c < 9218868437227405312) (hn : pNeg c = false) :
    ordV (floR .mul a c) = sg (pNeg a) (rungO (valM a * pWhole c) (pExp c - 1074) false) := by
  have na : pNone a = false := by unfold pNone; rw [decide_eq_false_iff_not]; omega
  have ia : pInf a = false := by unfold pInf; rw [decide_eq_false_iff_not]; omega
  have nc : pNone c = false := by unfold pNone; rw [decide_eq_false_iff_not]; omega
  have ic : pInf c = false := by unfold pInf; rw [decide_eq_false_iff_not]; omega
  have hw : 0 ≤ pWhole a * pWhole c := Int.mul_nonneg (pWhole_bounds a).1 (pWhole_bounds c).1
  rw [mul_link a c ha1 ha2 hc1 hc2]
  unfold mulM
  rw [if_neg (by simp [na, nc, ia, ic]), if_neg (by simp [ia, ic]), hn, bne_false', (ord_rnd _ _ _ _ hw).1]
  congr 1
  have ea := pExp_bounds a
  have hs := rungO_scale (pWhole a * pWhole c) (pExp a + pExp c) (pExp a + 1074).toNat hw
  rw [show pExp a + pExp c - ((pExp a + 1074).toNat : Int) = pExp c - 1074 by omega] at hs
  rw [← hs]
  congr 1
  unfold valM
  rw [Int.mul_assoc, Int.mul_assoc, Int.mul_comm (pWhole c)]
theorem grow_mul (a b c : Int) (ha1 : -9223372036854775808 ≤ a) (ha2 : a ≤ 9223372036854775807) (hb1 : -9223372036854775808 ≤ b) (hb2 : b ≤ 9223372036854775807) (hc1 : -9223372036854775808 ≤ c) (hc2 : c ≤ 9223372036854775807)
    (ha : rg a < 9218868437227405312) (hb : rg b < 9218868437227405312) (hc : rg c < 9218868437227405312) (hn : pNeg c = false) (h : ¬ ordV b < ordV a) : lessB (floR .mul b c) (floR .mul a c) = false := by
  apply not_less _ _ (floR_range _ _ _).1 (floR_range _ _ _).2 (floR_range _ _ _).1 (floR_range _ _ _).2
  rw [mul_ord a c ha1 ha2 hc1 hc2 ha hc hn, mul_ord b c hb1 hb2 hc1 hc2 hb hc hn]
  have wc := (pWhole_bounds c).1
  refine sg_mono a b (fun x => rungO (x * pWhole c) (pExp c - 1074) false) ?_ ?_ (val_mono a b ha hb h) ?_
  · intro x y hx hxy
    have hm := Int.mul_le_mul_of_nonneg_right hxy wc
    apply rungO_mono _ _ _ _ _ (Int.mul_nonneg hx wc)
    by_cases he : x * pWhole c = y * pWhole c
    · exact .inr ⟨he, fun q => q⟩
    · exact .inl (by omega)
  · intro x hx; exact (rungO_range _ _ _ (Int.mul_nonneg hx wc)).1
  · simp [rungO]
theorem div_ord (a c : Int) (ha1 : -9223372036854775808 ≤ a) (ha2 : a ≤ 9223372036854775807) (hc1 : -9223372036854775808 ≤ c) (hc2 : c ≤ 9223372036854775807) (ha : rg a < 9218868437227405312) (hc : rg c < 9218868437227405312) (hn : pNeg c = false) (hz : 0 < pWhole c) :
    ordV (floR .quo a c) = sg (pNeg a) (rungO (valM a * 2 ^ 120 / pWhole c) (-1074 - pExp c - 120) (decide (0 < valM a * 2 ^ 120 % pWhole c))) := by
  have na : pNone a = false := by unfold pNone; rw [decide_eq_false_iff_not]; omega
  have ia : pInf a = false := by unfold pInf; rw [decide_eq_false_iff_not]; omega
  have nc : pNone c = false := by unfold pNone; rw [decide_eq_false_iff_not]; omega
  have ic : pInf c = false := by unfold pInf; rw [decide_eq_false_iff_not]; omega
  have wa := pWhole_bounds a
  have wc := pWhole_bounds c
  have p0 : (0 : Int) ≤ 2 ^ 120 := by decide
  have hw : 0 ≤ pWhole a * 2 ^ 120 / pWhole c := Int.ediv_nonneg (Int.mul_nonneg wa.1 p0) wc.1
  rw [div_link a c ha1 ha2 hc1 hc2]
  unfold divV
  rw [if_neg (by simp [na, nc, ia, ic]; omega), if_neg (by simp [ia, ic]; omega), if_neg (by simp [ic]), hn, bne_false', (ord_rnd _ _ _ _ hw).1]
  congr 1
  by_cases hza : pWhole a = 0
  · unfold valM; rw [hza]; simp [rungO]
  · have ea := pExp_bounds a
    have hq : 9007199254740992 ≤ pWhole a * 2 ^ 120 / pWhole c := by
      apply Int.le_ediv_of_mul_le hz
      have e120 : (2 : Int) ^ 120 = 1329227995784915872903807060280344576 := by decide
      rw [e120]; omega
    obtain ⟨t, t0, t1, t2, t3⟩ := div_more (pWhole a * 2 ^ 120) (pWhole c) (pExp a + 1074).toNat hz (Int.mul_nonneg wa.1 p0)
    have hr := rnd_more false (pWhole a * 2 ^ 120 / pWhole c) t (pExp a + 1074).toNat (pExp a - pExp c - 120) (decide (0 < pWhole a * 2 ^ 120 * 2 ^ (pExp a + 1074).toNat % pWhole c)) hq t0 t1
    rw [← t2, t3, show pExp a - pExp c - 120 - ((pExp a + 1074).toNat : Int) = -1074 - pExp c - 120 by omega] at hr
    rw [rnd_rungO, rnd_rungO] at hr
    have hv : valM a * 2 ^ 120 = pWhole a * 2 ^ 120 * 2 ^ (pExp a + 1074).toNat := by unfold valM; rw [Int.mul_right_comm]
    rw [hv]
    simpa [signedV] using hr.symm
theorem grow_div (a b c : Int) (ha1 : -9223372036854775808 ≤ a) (ha2 : a ≤ 9223372036854775807) (hb1 : -9223372036854775808 ≤ b) (hb2 : b ≤ 9223372036854775807) (hc1 : -9223372036854775808 ≤ c) (hc2 : c ≤ 9223372036854775807)
    (ha : rg a < 9218868437227405312) (hb : rg b < 9218868437227405312) (hc : rg c < 9218868437227405312) (hn : pNeg c = false) (hz : 0 < pWhole c) (h : ¬ ordV b < ordV a) : lessB (floR .quo b c) (floR .quo a c) = false := by
  apply not_less _ _ (floR_range _ _ _).1 (floR_range _ _ _).2 (floR_range _ _ _).1 (floR_range _ _ _).2
  rw [div_ord a c ha1 ha2 hc1 hc2 ha hc hn hz, div_ord b c hb1 hb2 hc1 hc2 hb hc hn hz]
  have p0 : (0 : Int) ≤ 2 ^ 120 := by decide
  refine sg_mono a b (fun x => rungO (x * 2 ^ 120 / pWhole c) (-1074 - pExp c - 120) (decide (0 < x * 2 ^ 120 % pWhole c))) ?_ ?_ (val_mono a b ha hb h) ?_
  · intro x y hx hxy
    have hm := Int.mul_le_mul_of_nonneg_right hxy p0
    apply rungO_mono _ _ _ _ _ (Int.ediv_nonneg (Int.mul_nonneg hx p0) (by omega))
    have hq := Int.ediv_le_ediv hz hm
    by_cases he : x * 2 ^ 120 / pWhole c = y * 2 ^ 120 / pWhole c
    · refine .inr ⟨he, fun q => ?_⟩
      rw [decide_eq_true_eq] at q ⊢
      have h1 := Int.mul_ediv_add_emod (x * 2 ^ 120) (pWhole c)
      have h2 := Int.mul_ediv_add_emod (y * 2 ^ 120) (pWhole c)
      rw [he] at h1
      omega
    · exact .inl (by omega)
  · intro x hx; exact (rungO_range _ _ _ (Int.ediv_nonneg (Int.mul_nonneg hx p0) (by omega))).1
  · simp [rungO]
end Go.Proofs.Yteepkghjphmegac
