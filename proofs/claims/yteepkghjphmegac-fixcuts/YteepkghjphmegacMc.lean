/- what is cut of a float -/
import Derived.Test.YteepkghjphmegacM9
namespace Go.Proofs.Yteepkghjphmegac
open Go.ChangeShapes Go.WideShapes Go.ChangeAt Go.RowKit
set_option linter.unusedVariables false
set_option linter.unusedSimpArgs false

theorem toFlo_most : toFloV 1152921504606846975 = 4877398396442247168 := by decide +kernel
theorem toFlo_least : toFloV (-1152921504606846976) = -4345973640412528640 := by decide +kernel
theorem sg_zero (neg : Bool) : sg neg 0 = 0 := by unfold sg; cases neg <;> rfl
theorem sg_of (c : Int) : sg (decide (c < 0)) (c.natAbs : Int) = c := by
  unfold sg
  by_cases q : c < 0
  · rw [decide_eq_true q]; simp; omega
  · rw [decide_eq_false q]; simp; omega
/-- the worth of a small whole number's float -/
theorem val_toFlo (n : Int) (h1 : -9007199254740992 < n) (h2 : n < 9007199254740992) : valV (toFloV n) = n * 2 ^ 1074 ∧ rg (toFloV n) < 9218868437227405312 := by
  by_cases hz : n = 0
  · subst hz; rw [toFlo_zero]
    have h : valM 0 = 0 := by unfold valM; rw [show pWhole 0 = 0 by decide, Int.zero_mul]
    refine ⟨?_, by decide⟩
    unfold valV; rw [h, sg_zero, Int.zero_mul]
  · obtain ⟨h, hh, b1, b2, hv, l, u⟩ := rnd_small (decide (n < 0)) (n.natAbs : Int) (by omega) (by omega)
    obtain ⟨p1, p2, p3, p4⟩ := parts_of (decide (n < 0)) h _ (by omega) l (by omega) (toFloV n) hv
    refine ⟨?_, p2⟩
    have hW : pWhole (toFloV n) = (n.natAbs : Int) * 2 ^ (52 - h) := by rcases p4 with ⟨_, q, _⟩ | ⟨q, _⟩ <;> omega
    have hE : pExp (toFloV n) = (h : Int) - 52 := by rcases p4 with ⟨_, _, q⟩ | ⟨q, _⟩ <;> omega
    unfold valV valM
    rw [p1, hW, hE, Int.mul_assoc, ← Int.pow_add, sg_scale, sg_of, show 52 - h + ((h : Int) - 52 + 1074).toNat = 1074 by omega]
/-- a number below 1 whose digits are few is exact, and its pattern lies below that of 1 -/
theorem rung_below (Q E : Int) (h0 : 0 ≤ Q) (h1 : Q < 9007199254740992) (hE : -1074 ≤ E) (hE0 : E < 0) (h2 : Q < 2 ^ (-E).toNat) : rungO Q E false < 4607182418800017408 := by
  unfold rungO
  by_cases hz : Q = 0
  · rw [if_pos hz]; omega
  · rw [if_neg hz, rung_kept]
    obtain ⟨l1, l2⟩ := log_boundsM Q (by omega)
    have hl52 : Q.toNat.log2 ≤ 52 := by
      by_cases h : Q.toNat.log2 ≤ 52
      · exact h
      · have : (2 : Int) ^ 53 ≤ 2 ^ Q.toNat.log2 := pow_le_pow (by omega)
        rw [pow53] at this; omega
    have hlE : (Q.toNat.log2 : Int) < -E := by
      by_cases h : (Q.toNat.log2 : Int) < -E
      · exact h
      · have : (2 : Int) ^ (-E).toNat ≤ 2 ^ Q.toNat.log2 := pow_le_pow (by omega)
        omega
    obtain ⟨lo, hlo⟩ : ∃ lo, lo = lowV (Q.toNat.log2 : Int) E := ⟨_, rfl⟩
    rw [← hlo]
    have hlo1 : lo ≤ 0 := by rw [hlo]; unfold lowV; omega
    have hu : upB Q lo false = false := by unfold upB atV; rw [if_pos (by omega)]; rfl
    have hk : keptV Q lo false = Q * 2 ^ (-lo).toNat := by
      unfold keptV; rw [hu]
      rw [show lo = -(((-lo).toNat : Nat) : Int) by omega, flV_up _ _ (-lo).toNat rfl]
      simp
      congr 2
      omega
    rw [hk]
    generalize hd : (-lo).toNat = d
    have m2 := Int.mul_lt_mul_of_pos_right l2 (pow_pos' d)
    rw [← Int.pow_add] at m2
    have hlow2 : lo = (Q.toNat.log2 : Int) - 52 ∨ (lo = -1074 - E ∧ (Q.toNat.log2 : Int) - 52 ≤ lo) := by rw [hlo]; unfold lowV; omega
    have hle : (2 : Int) ^ (Q.toNat.log2 + 1 + d) ≤ 2 ^ 53 := pow_le_pow (by omega)
    rw [pow53] at hle
    rcases hlow2 with hc | ⟨hc, hc2⟩ <;> omega
theorem rg_of_ord (x r : Int) (neg : Bool) (h0 : 0 ≤ r) (h : ordV x = sg neg r) : rg x = r := by
  have := rg_bounds x
  unfold ordV sg at h
  revert h
  cases pNeg x <;> cases neg <;> simp <;> omega
theorem ord_mask (x : Int) : ordV (rg x) = rg x ∧ pNone (rg x) = pNone x ∧ -9223372036854775808 ≤ rg x ∧ rg x ≤ 9223372036854775807 := by
  have hb := rg_bounds x
  have hr : rg (rg x) = rg x := by unfold rg; omega
  refine ⟨?_, by unfold pNone; rw [hr], by omega, by omega⟩
  rw [ordV_pos _ (by omega) (by omega)]
theorem cut_facts (b : Int) (h1 : -9223372036854775808 ≤ b) (h2 : b ≤ 9223372036854775807) :
    (okV b = false → nV b = 0 ∧ (pNone b = true ∨ ¬ ordV b < 4877398396442247168 ∨ ¬ -4877398396442247168 < ordV b)) ∧
    (okV b = true → -1152921504606846976 ≤ nV b ∧ nV b ≤ 1152921504606846975 ∧ pNone b = false ∧
      (toFloV (nV b) = b ∨ (-4503599627370496 < nV b ∧ nV b < 4503599627370496 ∧ rg (floR .sub b (toFloV (nV b))) < 4607182418800017408 ∧ pNone (floR .sub b (toFloV (nV b))) = false ∧
        (nV b = 0 ∨ rg (toFloV (nV b)) ≤ rg b)))) := by
  have hrb := rg_bounds b
  have hw := pWhole_bounds b
  have he := pExp_bounds b
  constructor
  · intro k
    refine ⟨by unfold nV; rw [if_neg (by simp [k])], ?_⟩
    by_cases na : pNone b = true
    · exact .inl na
    · right
      have na' := Bool.eq_false_iff.mpr na
      have hge : 4877398396442247168 ≤ rg b := by
        by_cases ia : pInf b = true
        · unfold pInf at ia; rw [decide_eq_true_eq] at ia; omega
        · have ia' := Bool.eq_false_iff.mpr ia
          have hf := fin_of b na' ia'
          rw [okV_fin b hf] at k
          have hE : ¬ pExp b ≤ 7 := by intro q; rw [decide_eq_true q] at k; simp at k
          unfold pExp at hE
          by_cases c : rg b < 4503599627370496
          · rw [if_pos c] at hE; omega
          · rw [if_neg c, if_pos hf] at hE; omega
      unfold ordV
      cases pNeg b
      · left; simp; omega
      · right; simp; omega
  · intro k
    have na : pNone b = false := by
      cases hn : pNone b
      · rfl
      · unfold okV at k; rw [hn] at k; simp at k
    have ia : pInf b = false := by
      cases hn : pInf b
      · rfl
      · unfold okV at k; rw [hn] at k; simp at k
    have hf := fin_of b na ia
    have hnv : nV b = sg (pNeg b) (flV (pWhole b) (-(pExp b))) := by unfold nV; rw [if_pos k]
    by_cases hE : 0 ≤ pExp b
    · have hfl := flV_up (pWhole b) (pExp b) (pExp b).toNat (by omega)
      rw [hfl] at hnv
      have hnorm : ¬ rg b < 4503599627370496 := by
        intro c; unfold pExp at hE; rw [if_pos c] at hE; omega
      have hW : 4503599627370496 ≤ pWhole b := by unfold pWhole; rw [if_neg hnorm, if_pos hf]; omega
      have hX : 0 < pWhole b * 2 ^ (pExp b).toNat := Int.mul_pos (by omega) (pow_pos' _)
      have hback : rndV (pNeg b) (pWhole b * 2 ^ (pExp b).toNat) 0 false = b := by
        have hs := rnd_scale (pNeg b) (pWhole b) (pExp b) (pExp b).toNat hw.1
        rw [show pExp b - ((pExp b).toNat : Int) = 0 by omega] at hs
        rw [hs]; exact rnd_exact b h1 h2 hf
      have hle : pWhole b * 2 ^ (pExp b).toNat < 1152921504606846976 ∨ (pWhole b * 2 ^ (pExp b).toNat = 1152921504606846976 ∧ pNeg b = true) := by
        rw [okV_fin b hf] at k
        simp only [Bool.or_eq_true, Bool.and_eq_true, decide_eq_true_eq] at k
        rcases k with k | ⟨⟨k, kn⟩, kw⟩
        · left
          have hp : (2 : Int) ^ (pExp b).toNat ≤ 2 ^ 7 := pow_le_pow (by omega)
          have m1 := Int.mul_le_mul_of_nonneg_left hp hw.1
          have e7 : (2 : Int) ^ 7 = 128 := by decide
          rw [e7] at m1; omega
        · right
          rw [k, kw]; exact ⟨by decide, kn⟩
      generalize hXX : pWhole b * 2 ^ (pExp b).toNat = X at *
      have hb2 : toFloV (nV b) = b := by
        have hng : toFloV (nV b) = rndV (pNeg b) X 0 false := by
          rw [hnv]; unfold toFloV
          cases pNeg b
          · rw [show sg false X = X by simp [sg], decide_eq_false (by omega), show (X.natAbs : Int) = X by omega]
          · rw [show sg true X = -X by simp [sg], decide_eq_true (by omega), show ((-X).natAbs : Int) = X by omega]
        rw [hng, hback]
      refine ⟨?_, ?_, na, .inl hb2⟩
      · rw [hnv]; unfold sg; split <;> omega
      · rw [hnv]; unfold sg
        cases hng : pNeg b
        · simp; rcases hle with q | ⟨_, q⟩
          · omega
          · rw [hng] at q; cases q
        · simp; omega
    · have hM : flV (pWhole b) (-(pExp b)) = pWhole b / 2 ^ (-(pExp b)).toNat := by unfold flV; rw [if_pos (by omega)]
      rw [hM] at hnv
      obtain ⟨t, ht⟩ : ∃ t : Nat, t = (-(pExp b)).toNat := ⟨_, rfl⟩
      rw [← ht] at hnv
      have hpt := pow_pos' t
      have hdm := Int.mul_ediv_add_emod (pWhole b) (2 ^ t)
      have hq0 := Int.emod_nonneg (pWhole b) (Int.ne_of_gt hpt)
      have hq1 := Int.emod_lt_of_pos (pWhole b) hpt
      have hM0 : 0 ≤ pWhole b / 2 ^ t := Int.ediv_nonneg hw.1 (Int.le_of_lt hpt)
      generalize hMM : pWhole b / 2 ^ t = M at *
      generalize hQQ : pWhole b % 2 ^ t = Q at *
      have hp2 : (2 : Int) ^ 1 ≤ 2 ^ t := pow_le_pow (by omega)
      rw [show (2 : Int) ^ 1 = 2 by decide] at hp2
      have hmm := Int.mul_le_mul_of_nonneg_right hp2 hM0
      have hM1 : M < 4503599627370496 := by omega
      have hQw : Q ≤ pWhole b := by have := Int.mul_nonneg (Int.le_of_lt hpt) hM0; omega
      have hn1 : -4503599627370496 < nV b ∧ nV b < 4503599627370496 := by rw [hnv]; unfold sg; cases pNeg b <;> simp <;> omega
      refine ⟨by omega, by omega, na, .inr ⟨hn1.1, hn1.2, ?_⟩⟩
      obtain ⟨v1, v2⟩ := val_toFlo (nV b) (by omega) (by omega)
      obtain ⟨f1, f2⟩ := toFlo_rng (nV b)
      have hfb := flip_bounds (toFloV (nV b))
      obtain ⟨o1, o2⟩ := add_ord b (flipV (toFloV (nV b))) h1 h2 hfb.1 hfb.2 hf (by rw [flip_rg]; exact v2)
      rw [← sub_flip_flo b _ h1 h2 f1 f2] at o1 o2
      have hvf : valV (flipV (toFloV (nV b))) = -(nV b * 2 ^ 1074) := by
        rw [← v1]
        obtain ⟨_, _, g3, g4⟩ := flip_parts (toFloV (nV b))
        unfold valV valM
        rw [g3, g4, flip_neg _ f1 f2]
        unfold sg; cases pNeg (toFloV (nV b)) <;> simp
      have hvb : valV b = sg (pNeg b) (M * 2 ^ 1074 + Q * 2 ^ (pExp b + 1074).toNat) := by
        unfold valV valM
        rw [← hdm, Int.add_mul, Int.mul_comm (2 ^ t) M, Int.mul_assoc, ← Int.pow_add]
        congr 4
        omega
      have hdiff : valV b + valV (flipV (toFloV (nV b))) = sg (pNeg b) (Q * 2 ^ (pExp b + 1074).toNat) := by
        rw [hvf, hvb, hnv, ← sg_scale]
        unfold sg; split <;> omega
      have hs := rungO_scale Q (pExp b) (pExp b + 1074).toNat hq0
      rw [show pExp b - ((pExp b + 1074).toNat : Int) = -1074 by omega] at hs
      have hP := Int.mul_nonneg hq0 (Int.le_of_lt (pow_pos' (pExp b + 1074).toNat))
      have hbel := rung_below Q (pExp b) hq0 (by omega) he.1 (by omega) (by rw [← ht]; exact hq1)
      have hr0 := (rungO_range Q (pExp b) false hq0).1
      rw [hdiff] at o1
      generalize hPP : Q * 2 ^ (pExp b + 1074).toNat = P at *
      have hna : (((sg (pNeg b) P).natAbs : Nat) : Int) = P := by unfold sg; split <;> omega
      unfold ordO at o1
      rw [hna, hs] at o1
      have hrest := rg_of_ord _ _ _ hr0 o1
      refine ⟨by rw [hrest]; exact hbel, o2, ?_⟩
      by_cases hz : nV b = 0
      · exact .inl hz
      · right
        have hb3 := rnd_exact b h1 h2 hf
        rw [rnd_rungO] at hb3
        have hr2 := rungO_range (pWhole b) (pExp b) false hw.1
        have e1 := (rg_signed (pNeg b) (rungO (pWhole b) (pExp b) false) hr2.1 (by omega)).1
        rw [hb3] at e1
        have e2 : rg (toFloV (nV b)) = rungO M 0 false := by
          have hna2 : (((nV b).natAbs : Nat) : Int) = M := by rw [hnv]; unfold sg; split <;> omega
          unfold toFloV
          rw [hna2, rnd_rungO]
          have hr3 := rungO_range M 0 false hM0
          exact (rg_signed _ _ hr3.1 (by omega)).1
        rw [e1, e2]
        have hs2 := rungO_scale M 0 t hM0
        rw [show (0 : Int) - (t : Int) = pExp b by omega] at hs2
        rw [← hs2]
        apply rungO_mono _ _ _ _ _ (Int.mul_nonneg hM0 (Int.le_of_lt hpt))
        unfold leM
        rw [Int.mul_comm] at hdm
        by_cases q : Q = 0
        · right; exact ⟨by omega, fun h => h⟩
        · left; omega
end Go.Proofs.Yteepkghjphmegac
