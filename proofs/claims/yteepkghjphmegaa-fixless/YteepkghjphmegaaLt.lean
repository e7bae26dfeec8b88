/- the order of the floats -/
import Derived.Test.YteepkghjphmegaaFm
import Derived.Test.YteepkghjphmegaaFb
namespace Go.Proofs.Yteepkghjphmegaa
open Go.ChangeShapes Go.WideShapes Go.ChangeAt Go.RowKit
set_option linter.unusedVariables false
set_option linter.unusedSimpArgs false

/-- a pattern as a place in the order -/
def ordV (a : Int) : Int := if pNeg a = true then -(rg a) else rg a
def lessV (a b : Int) : Bool := !pNone a && !pNone b && decide (ordV a < ordV b)

/-- greater rungs are greater numbers -/
theorem rung_lt (a b : Int) (h : rg a < rg b) (hf : rg b < 9218868437227405312) : magL a b < magR a b ∧ lowE a b = pExp a := by
  have ra := rg_bounds a
  have hw : pExp a ≤ pExp b ∧ (pExp a = pExp b → pWhole a < pWhole b) ∧ (pExp a < pExp b → 4503599627370496 ≤ pWhole b) ∧ pWhole a < 9007199254740992 ∧ 0 ≤ pWhole a := by
    unfold pExp pWhole
    by_cases c1 : rg a < 4503599627370496 <;> by_cases c2 : rg b < 4503599627370496
    · rw [if_pos c1, if_pos c1, if_pos c2, if_pos c2]; omega
    · rw [if_pos c1, if_pos c1, if_neg c2, if_neg c2, if_pos hf, if_pos hf]; omega
    · omega
    · rw [if_neg c1, if_neg c1, if_neg c2, if_neg c2, if_pos hf, if_pos hf, if_pos (by omega), if_pos (by omega)]; omega
  obtain ⟨h1, h2, h3, h4, h5⟩ := hw
  have hl : lowE a b = pExp a := by unfold lowE; omega
  refine ⟨?_, hl⟩
  unfold magL magR
  rw [hl]
  have e0 : (pExp a - pExp a).toNat = 0 := by omega
  rw [e0]
  by_cases he : pExp a = pExp b
  · have e1 : (pExp b - pExp a).toNat = 0 := by omega
    rw [e1]; have := h2 he; simp; exact this
  · have e1 : (pExp b - pExp a).toNat = (pExp b - pExp a).toNat - 1 + 1 := by omega
    rw [e1, pow_succ']
    have hp := pow_pos' ((pExp b - pExp a).toNat - 1)
    have hb := h3 (by omega)
    have hm := Int.mul_le_mul_of_nonneg_left (a := 1) (b := 2 ^ ((pExp b - pExp a).toNat - 1)) (c := pWhole b * 2) (by omega) (by omega)
    rw [Int.mul_one, Int.mul_assoc] at hm
    simp; omega
theorem mag_swap (a b : Int) : magL a b = magR b a ∧ magR a b = magL b a := by
  have : lowE a b = lowE b a := by unfold lowE; omega
  unfold magL magR; rw [this]; exact ⟨rfl, rfl⟩
theorem rung_eq (a b : Int) (h : rg a = rg b) : magL a b = magR a b := by
  have e1 : pWhole a = pWhole b := by unfold pWhole; rw [h]
  have e2 : pExp a = pExp b := by unfold pExp; rw [h]
  unfold magL magR; rw [e1, e2]
theorem rung_zero (a : Int) (b : Int) : (rg a = 0 → magL a b = 0) ∧ (0 < rg a → rg a < 9218868437227405312 → 0 < magL a b) := by
  constructor
  · intro h
    have : pWhole a = 0 := by unfold pWhole; rw [h]; rfl
    unfold magL; rw [this, Int.zero_mul]
  · intro h hf
    have : 0 < pWhole a := by
      unfold pWhole
      by_cases c : rg a < 4503599627370496
      · rw [if_pos c]; exact h
      · rw [if_neg c, if_pos hf]; omega
    exact Int.mul_pos this (pow_pos' _)
theorem cmp_lt (x y : Int) : (some (compare x y) == some Ordering.lt) = decide (x < y) := by
  rw [Bool.eq_iff_iff]; simp [Int.compare_eq_lt]
theorem fin_less (a b : Int) (ha : rg a < 9218868437227405312) (hb : rg b < 9218868437227405312) : sg (pNeg a) (magL a b) < sg (pNeg b) (magR a b) ↔ ordV a < ordV b := by
  obtain ⟨n1, n2⟩ := mag_nonneg a b
  have ra := (rg_bounds a).1
  have rb := (rg_bounds b).1
  have t : (rg a < rg b ∧ magL a b < magR a b) ∨ (rg a = rg b ∧ magL a b = magR a b) ∨ (rg b < rg a ∧ magR a b < magL a b) := by
    rcases Int.lt_trichotomy (rg a) (rg b) with h | h | h
    · exact .inl ⟨h, (rung_lt a b h hb).1⟩
    · exact .inr (.inl ⟨h, rung_eq a b h⟩)
    · have := (rung_lt b a h ha).1
      rw [← (mag_swap a b).2, ← (mag_swap a b).1] at this
      exact .inr (.inr ⟨h, this⟩)
  have za : (rg a = 0 ∧ magL a b = 0) ∨ (0 < rg a ∧ 0 < magL a b) := by
    by_cases h : rg a = 0
    · exact .inl ⟨h, (rung_zero a b).1 h⟩
    · exact .inr ⟨by omega, (rung_zero a b).2 (by omega) ha⟩
  have zb : (rg b = 0 ∧ magR a b = 0) ∨ (0 < rg b ∧ 0 < magR a b) := by
    rw [(mag_swap a b).2]
    by_cases h : rg b = 0
    · exact .inl ⟨h, (rung_zero b a).1 h⟩
    · exact .inr ⟨by omega, (rung_zero b a).2 (by omega) hb⟩
  unfold sg ordV
  cases pNeg a <;> cases pNeg b <;> simp only [Bool.false_eq_true, if_false, if_true] <;> omega
theorem less_link (a b : Int) (ha1 : -9223372036854775808 ≤ a) (ha2 : a ≤ 9223372036854775807) (hb1 : -9223372036854775808 ≤ b) (hb2 : b ≤ 9223372036854775807) : lessB a b = lessV a b := by
  unfold lessB lessV Ieee.Format.order
  rw [read_pat a ha1 ha2, read_pat b hb1 hb2]
  have ra := rg_bounds a
  have rb := rg_bounds b
  by_cases na : pNone a = true
  · simp [na, Ieee.Datum.order]
  · by_cases nb : pNone b = true
    · by_cases ia : pInf a = true <;> simp [na, nb, ia, Ieee.Datum.order]
    · have la : rg a ≤ 9218868437227405312 := by unfold pNone at na; rw [decide_eq_true_eq] at na; omega
      have lb : rg b ≤ 9218868437227405312 := by unfold pNone at nb; rw [decide_eq_true_eq] at nb; omega
      rw [if_neg na, if_neg nb]
      have na' := Bool.eq_false_iff.mpr na
      have nb' := Bool.eq_false_iff.mpr nb
      rw [na', nb']
      simp only [Bool.not_false, Bool.true_and]
      by_cases ia : pInf a = true <;> by_cases ib : pInf b = true
      · have ea : rg a = 9218868437227405312 := by unfold pInf at ia; rw [decide_eq_true_eq] at ia; exact ia
        have eb : rg b = 9218868437227405312 := by unfold pInf at ib; rw [decide_eq_true_eq] at ib; exact ib
        rw [if_pos ia, if_pos ib]
        unfold ordV
        rw [ea, eb]
        cases pNeg a <;> cases pNeg b <;> simp [Ieee.Datum.order] <;> decide
      · have ea : rg a = 9218868437227405312 := by unfold pInf at ia; rw [decide_eq_true_eq] at ia; exact ia
        have eb : rg b < 9218868437227405312 := by unfold pInf at ib; rw [decide_eq_true_eq] at ib; omega
        rw [if_pos ia, if_neg ib]
        unfold ordV
        rw [ea]
        cases pNeg a <;> cases pNeg b <;> simp [Ieee.Datum.order] <;> omega
      · have eb : rg b = 9218868437227405312 := by unfold pInf at ib; rw [decide_eq_true_eq] at ib; exact ib
        have ea : rg a < 9218868437227405312 := by unfold pInf at ia; rw [decide_eq_true_eq] at ia; omega
        rw [if_neg ia, if_pos ib]
        unfold ordV
        rw [eb]
        cases pNeg a <;> cases pNeg b <;> simp [Ieee.Datum.order] <;> omega
      · have eb : rg b < 9218868437227405312 := by unfold pInf at ib; rw [decide_eq_true_eq] at ib; omega
        have ea : rg a < 9218868437227405312 := by unfold pInf at ia; rw [decide_eq_true_eq] at ia; omega
        rw [if_neg ia, if_neg ib]
        show (some (compare (Ieee.signed (pNeg a) (pWhole a).toNat (pExp a - min (pExp a) (pExp b)).toNat) (Ieee.signed (pNeg b) (pWhole b).toNat (pExp b - min (pExp a) (pExp b)).toNat)) == some Ordering.lt) = _
        rw [signed_sg _ _ _ (pWhole_bounds a).1, signed_sg _ _ _ (pWhole_bounds b).1, cmp_lt]
        exact decide_eq_decide.2 (fin_less a b ea eb)

/-! ### the document's own answer -/
theorem ordV_neg (a : Int) (h1 : -9223372036854775808 ≤ a) (h : a < 0) : ordV a = -(a - -9223372036854775808) := by
  unfold ordV pNeg rg; simp [h]; omega
theorem ordV_pos (a : Int) (h2 : a ≤ 9223372036854775807) (h : ¬ a < 0) : ordV a = a := by
  unfold ordV pNeg rg; simp [h]; omega
set_option maxHeartbeats 2000000 in
theorem refFloLess_any (a b : Int) (w : World) (ha1 : -9223372036854775808 ≤ a) (ha2 : a ≤ 9223372036854775807) (hb1 : -9223372036854775808 ≤ b) (hb2 : b ≤ 9223372036854775807) :
    Calls Try.prog 22 #[.int .i64 a, .int .i64 b] w fun e w' => e = .returned (.bool (lessV a b)) ∧ Below w.heap.size w w' := by
  obtain ⟨nA, hnA⟩ : ∃ x, x = pNone a := ⟨_, rfl⟩
  obtain ⟨iA, hiA⟩ : ∃ x, x = pInf a := ⟨_, rfl⟩
  obtain ⟨gA, hgA⟩ : ∃ x, x = pNeg a := ⟨_, rfl⟩
  obtain ⟨nB, hnB⟩ : ∃ x, x = pNone b := ⟨_, rfl⟩
  obtain ⟨iB, hiB⟩ : ∃ x, x = pInf b := ⟨_, rfl⟩
  obtain ⟨gB, hgB⟩ : ∃ x, x = pNeg b := ⟨_, rfl⟩
  have HfA := hid_mk (flo_as hgA hiA hnA)
  have HfB := hid_mk (flo_as hgB hiB hnB)
  have HV : Hid (lessV a b = (!nA && !nB && decide (ordV a < ordV b))) := by show lessV a b = _; unfold lessV; rw [hnA, hnB]
  have HA : Hid (gA = true ∧ a < 0 ∧ ordV a = -(a - -9223372036854775808) ∨ gA = false ∧ ¬ a < 0 ∧ ordV a = a) := by
    show _ ∨ _
    by_cases h : a < 0
    · exact .inl ⟨by rw [hgA]; exact decide_eq_true h, h, ordV_neg a ha1 h⟩
    · exact .inr ⟨by rw [hgA]; exact decide_eq_false h, h, ordV_pos a ha2 h⟩
  have HB : Hid (gB = true ∧ b < 0 ∧ ordV b = -(b - -9223372036854775808) ∨ gB = false ∧ ¬ b < 0 ∧ ordV b = b) := by
    show _ ∨ _
    by_cases h : b < 0
    · exact .inl ⟨by rw [hgB]; exact decide_eq_true h, h, ordV_neg b hb1 h⟩
    · exact .inr ⟨by rw [hgB]; exact decide_eq_false h, h, ordV_pos b hb2 h⟩
  clear hnA hiA hgA hnB hiB hgB
  go_enter Try.func22, Try.ntmps22
  go_wp2_with fail
  refine (refParts_any a _ ha1 ha2).mono ?_
  rintro e w1 ⟨rfl, hg1⟩
  rw [HfA.out]
  go_wp2_with fail
  refine (refParts_any b _ hb1 hb2).mono ?_
  rintro e w2 ⟨rfl, hg2⟩
  rw [HfB.out]
  have hA2 := heap_below (heap_alloc_new w1 (.cells #[.bool gA, .bool iA, .bool nA, .int .i64 (pWhole a), .int .i64 (pExp a)] 31)) hg2
  have hW2 : Below w.heap.size w w2 := (hg1.alloc hg1.size _).trans (hg2.mono (by have := hg1.size; simp; omega))
  clear hg1 hg2 HfA HfB
  cases nA
  case true =>
    obtain ⟨x0, x1, x2, x3, x4⟩ := cells5 ((heap_alloc_old w2 (.cells #[.bool gB, .bool iB, .bool nB, .int .i64 (pWhole b), .int .i64 (pExp b)] 31) (heap_lt hA2)).trans hA2)
    have hW3 := hW2.alloc hW2.size (.cells #[.bool gB, .bool iB, .bool nB, .int .i64 (pWhole b), .int .i64 (pExp b)] 31)
    go_wp2
    go_ret
    exact ⟨ret_bool (by rw [HV.out]; simp), hW3⟩
  case false =>
    cases nB
    case true =>
      obtain ⟨x0, x1, x2, x3, x4⟩ := cells5 ((heap_alloc_old w2 (.cells #[.bool gB, .bool iB, .bool true, .int .i64 (pWhole b), .int .i64 (pExp b)] 31) (heap_lt hA2)).trans hA2)
      have hW3 := hW2.alloc hW2.size (.cells #[.bool gB, .bool iB, .bool true, .int .i64 (pWhole b), .int .i64 (pExp b)] 31)
      go_wp2
      go_ret
      exact ⟨ret_bool (by rw [HV.out]; simp), hW3⟩
    case false =>
      rcases HA.out with ⟨ga, la, va⟩ | ⟨ga, la, va⟩ <;> rcases HB.out with ⟨gb, lb, vb⟩ | ⟨gb, lb, vb⟩
      all_goals
        subst ga
        subst gb
        have VA := hid_mk va
        have VB := hid_mk vb
        clear va vb HA HB
        first
          | (obtain ⟨x0, x1, x2, x3, x4⟩ := cells5 ((heap_alloc_old w2 (.cells #[.bool true, .bool iB, .bool false, .int .i64 (pWhole b), .int .i64 (pExp b)] 31) (heap_lt hA2)).trans hA2)
             have hW3 := hW2.alloc hW2.size (.cells #[.bool true, .bool iB, .bool false, .int .i64 (pWhole b), .int .i64 (pExp b)] 31)
             go_wp2
             go_ret
             exact ⟨ret_bool (by rw [HV.out, VA.out, VB.out]; simp), hW3⟩)
          | (obtain ⟨x0, x1, x2, x3, x4⟩ := cells5 ((heap_alloc_old w2 (.cells #[.bool false, .bool iB, .bool false, .int .i64 (pWhole b), .int .i64 (pExp b)] 31) (heap_lt hA2)).trans hA2)
             have hW3 := hW2.alloc hW2.size (.cells #[.bool false, .bool iB, .bool false, .int .i64 (pWhole b), .int .i64 (pExp b)] 31)
             go_wp2
             go_ret
             exact ⟨ret_bool (by rw [HV.out, VA.out, VB.out]; simp), hW3⟩)
end Go.Proofs.Yteepkghjphmegaa
