/- the walks of Ar6 -/
import Derived.Test.YteepkghjphmegabWAr5
namespace Go.Proofs.Yteepkghjphmegab
open Go.ChangeShapes Go.WideShapes Go.ChangeAt Go.RowKit
set_option linter.unusedVariables false
set_option linter.unusedSimpArgs false

theorem tdiv_pp (c d : Int) (hc : 0 ≤ c) : c.tdiv d = c / d := Int.tdiv_eq_ediv_of_nonneg hc
theorem quot_signs (c d : Int) : c.tdiv d = if (decide (c < 0) != decide (d < 0)) = true then -((c.natAbs : Int) / (d.natAbs : Int)) else (c.natAbs : Int) / (d.natAbs : Int) := by
  by_cases hc : c < 0 <;> by_cases hd : d < 0
  · have e1 : (c.natAbs : Int) = -c := by omega
    have e2 : (d.natAbs : Int) = -d := by omega
    rw [e1, e2]; simp only [hc, hd, decide_true, bne_self_eq_false, Bool.false_eq_true, if_false]
    have h1 : c = -(-c) := by omega
    have h2 : d = -(-d) := by omega
    conv => lhs; rw [h1, h2]
    rw [Int.neg_tdiv, Int.tdiv_neg, Int.neg_neg, tdiv_pp _ _ (by omega)]
  · have e1 : (c.natAbs : Int) = -c := by omega
    have e2 : (d.natAbs : Int) = d := by omega
    rw [e1, e2]; simp [hc, hd]
    have h1 : c = -(-c) := by omega
    conv => lhs; rw [h1]
    rw [Int.neg_tdiv, tdiv_pp _ _ (by omega)]
  · have e1 : (c.natAbs : Int) = c := by omega
    have e2 : (d.natAbs : Int) = -d := by omega
    rw [e1, e2]; simp only [hc, hd, decide_true, decide_false]
    have h2 : d = -(-d) := by omega
    conv => lhs; rw [h2]
    rw [Int.tdiv_neg, tdiv_pp _ _ (by omega)]; simp
  · have e1 : (c.natAbs : Int) = c := by omega
    have e2 : (d.natAbs : Int) = d := by omega
    rw [e1, e2]; simp only [hc, hd, bne_self_eq_false, Bool.false_eq_true, if_false]
    exact tdiv_pp _ _ (by omega)
theorem rem_signs (c d : Int) : c.tmod d = if c < 0 then -((c.natAbs : Int) % (d.natAbs : Int)) else (c.natAbs : Int) % (d.natAbs : Int) := by
  have ed : ∀ x : Int, x.tmod d = x.tmod (d.natAbs : Int) := by
    intro x
    by_cases hd : d < 0
    · have : (d.natAbs : Int) = -d := by omega
      rw [this, Int.tmod_neg]
    · have : (d.natAbs : Int) = d := by omega
      rw [this]
  rw [ed]
  by_cases hc : c < 0
  · have e1 : (c.natAbs : Int) = -c := by omega
    rw [e1, if_pos hc]
    have h1 : c = -(-c) := by omega
    conv => lhs; rw [h1]
    rw [Int.neg_tmod, Int.tmod_eq_emod_of_nonneg (by omega)]
  · have e1 : (c.natAbs : Int) = c := by omega
    rw [e1, if_neg hc]
    exact Int.tmod_eq_emod_of_nonneg (by omega)

set_option maxHeartbeats 400000 in
theorem refQuot_any (a b : Int) (w : World) :
    Calls Try.prog 50 #[.int .i64 a, .int .i64 b] w fun e w' => e = .returned (.int .i64 (quotV a b)) ∧ w' = w := by
  obtain ⟨ha0, ha1⟩ := fwrap_bounds a
  obtain ⟨hb0, hb1⟩ := fwrap_bounds b
  have HQ : Hid ((fwrap a).tdiv (fwrap b) = if (decide (fwrap a < 0) != decide (fwrap b < 0)) = true then -(((fwrap a).natAbs : Int) / ((fwrap b).natAbs : Int)) else ((fwrap a).natAbs : Int) / ((fwrap b).natAbs : Int)) := quot_signs _ _
  by_cases h : fwrap b = 0
  · go_enter Try.func50, Try.ntmps50
    go_wp2_with (go_at_call 25; refine (refWrap_any _ _).mono ?_; rintro e w' ⟨rfl, rfl⟩)
    go_ret
    exact ⟨ret_int (by unfold quotV; rw [if_pos h]), rfl⟩
  · have h0 : (fwrap b == 0) = false := by simpa using h
    have q0 : 0 ≤ ((fwrap a).natAbs : Int) / ((fwrap b).natAbs : Int) := Int.ediv_nonneg (by omega) (by omega)
    have q1 : ((fwrap a).natAbs : Int) / ((fwrap b).natAbs : Int) ≤ 1152921504606846976 := Int.le_trans (Int.ediv_le_self _ (by omega)) (by omega)
    have hV : quotV a b = fwrap ((fwrap a).tdiv (fwrap b)) := by unfold quotV; rw [if_neg h]
    rw [hV]
    clear hV
    obtain ⟨q, hq⟩ : ∃ q, q = ((fwrap a).natAbs : Int) / ((fwrap b).natAbs : Int) := ⟨_, rfl⟩
    rw [← hq] at q0 q1
    have HQ' : Hid ((fwrap a).tdiv (fwrap b) = if (decide (fwrap a < 0) != decide (fwrap b < 0)) = true then -q else q) := by
      have := HQ.out; rw [← hq] at this; exact this
    clear HQ
    have hdv : ∀ w, Calls Try.prog 68 #[.int .i64 ((fwrap a).natAbs : Int), .int .i64 ((fwrap b).natAbs : Int)] w fun e w' => e = .returned (.tuple #[.int .i64 q, .int .i64 (((fwrap a).natAbs : Int) % ((fwrap b).natAbs : Int))]) ∧ w' = w := by
      intro w; rw [hq]; exact refDivided_any _ _ w (by omega) (by omega) (by omega) (by omega)
    clear hq
    by_cases hc : fwrap a < 0 <;> by_cases hd : fwrap b < 0
    all_goals
      have HE : Hid (fwrap ((fwrap a).tdiv (fwrap b)) = fwrap (if (decide (fwrap a < 0) != decide (fwrap b < 0)) = true then -q else q)) := by
        show _ = _; rw [HQ'.out]
      clear HQ'
      first | (have da : decide (fwrap a < 0) = true := decide_eq_true hc) | (have da : decide (fwrap a < 0) = false := decide_eq_false hc)
      first | (have db : decide (fwrap b < 0) = true := decide_eq_true hd) | (have db : decide (fwrap b < 0) = false := decide_eq_false hd)
      go_enter Try.func50, Try.ntmps50
      go_wp2_with (first | (go_at_call 25; refine (refWrap_any _ _).mono ?_; rintro e w' ⟨rfl, rfl⟩) | (go_at_call 28; refine (refSize_any _ _ (by omega)).mono ?_; rintro e w' ⟨rfl, rfl⟩) | (go_at_call 68; refine (hdv _).mono ?_; rintro e w' ⟨rfl, rfl⟩))
      go_ret
      refine ⟨ret_int ?_, rfl⟩
      rw [HE.out]
      simp [da, db]

set_option maxHeartbeats 400000 in
theorem refRem_any (a b : Int) (w : World) :
    Calls Try.prog 51 #[.int .i64 a, .int .i64 b] w fun e w' => e = .returned (.int .i64 (remV a b)) ∧ w' = w := by
  obtain ⟨ha0, ha1⟩ := fwrap_bounds a
  obtain ⟨hb0, hb1⟩ := fwrap_bounds b
  have HQ : Hid ((fwrap a).tmod (fwrap b) = if fwrap a < 0 then -(((fwrap a).natAbs : Int) % ((fwrap b).natAbs : Int)) else ((fwrap a).natAbs : Int) % ((fwrap b).natAbs : Int)) := rem_signs _ _
  by_cases h : fwrap b = 0
  · go_enter Try.func51, Try.ntmps51
    go_wp2_with (go_at_call 25; refine (refWrap_any _ _).mono ?_; rintro e w' ⟨rfl, rfl⟩)
    go_ret
    exact ⟨ret_int (by unfold remV; rw [if_pos h]), rfl⟩
  · have h0 : (fwrap b == 0) = false := by simpa using h
    have hV : remV a b = (fwrap a).tmod (fwrap b) := by unfold remV; rw [if_neg h]
    rw [hV]
    clear hV
    have r0 := Int.emod_nonneg ((fwrap a).natAbs : Int) (b := ((fwrap b).natAbs : Int)) (by omega)
    have r1 := Int.emod_lt_of_pos ((fwrap a).natAbs : Int) (b := ((fwrap b).natAbs : Int)) (by omega)
    obtain ⟨r, hr⟩ : ∃ r, r = ((fwrap a).natAbs : Int) % ((fwrap b).natAbs : Int) := ⟨_, rfl⟩
    have HQ' : Hid ((fwrap a).tmod (fwrap b) = if fwrap a < 0 then -r else r) := by
      have := HQ.out; rw [← hr] at this; exact this
    rw [← hr] at r0 r1
    have hdv : ∀ w, Calls Try.prog 68 #[.int .i64 ((fwrap a).natAbs : Int), .int .i64 ((fwrap b).natAbs : Int)] w fun e w' => e = .returned (.tuple #[.int .i64 (((fwrap a).natAbs : Int) / ((fwrap b).natAbs : Int)), .int .i64 r]) ∧ w' = w := by
      intro w; rw [hr]; exact refDivided_any _ _ w (by omega) (by omega) (by omega) (by omega)
    clear hr HQ
    have rb : r ≤ 1152921504606846976 := by omega
    by_cases hs : fwrap a < 0
    · go_enter Try.func51, Try.ntmps51
      go_wp2_with (first | (go_at_call 25; refine (refWrap_any _ _).mono ?_; rintro e w' ⟨rfl, rfl⟩) | (go_at_call 28; refine (refSize_any _ _ (by omega)).mono ?_; rintro e w' ⟨rfl, rfl⟩) | (go_at_call 68; refine (hdv _).mono ?_; rintro e w' ⟨rfl, rfl⟩))
      go_ret
      exact ⟨ret_int (by rw [HQ'.out, if_pos hs]), rfl⟩
    · go_enter Try.func51, Try.ntmps51
      go_wp2_with (first | (go_at_call 25; refine (refWrap_any _ _).mono ?_; rintro e w' ⟨rfl, rfl⟩) | (go_at_call 28; refine (refSize_any _ _ (by omega)).mono ?_; rintro e w' ⟨rfl, rfl⟩) | (go_at_call 68; refine (hdv _).mono ?_; rintro e w' ⟨rfl, rfl⟩))
      go_ret
      exact ⟨ret_int (by rw [HQ'.out, if_neg (by omega)]), rfl⟩

set_option maxHeartbeats 1000000 in
theorem whole_any (a b : Int) (w : World) :
    Calls Try.prog 32 #[.int .i64 a, .int .i64 b] w fun e w' => e = .returned (.bool true) ∧ Below w.heap.size w w' := by
  have h0 := Below.refl w.heap.size w
  go_enter Try.func32, Try.ntmps32
  go_wp2_with (first
    | (go_at_call 14; refine (fixAdd_any _ _ _).mono ?_; rintro e w' ⟨rfl, rfl⟩)
    | (go_at_call 16; refine (fixSub_any _ _ _).mono ?_; rintro e w' ⟨rfl, rfl⟩)
    | (go_at_call 15; refine (fixMul_any _ _ _).mono ?_; rintro e w' ⟨rfl, rfl⟩)
    | (go_at_call 19; refine (fixQuot_any _ _ _).mono ?_; rintro e w' ⟨rfl, rfl⟩)
    | (go_at_call 20; refine (fixRem_any _ _ _).mono ?_; rintro e w' ⟨rfl, rfl⟩)
    | (go_at_call 50; refine (refQuot_any _ _ _).mono ?_; rintro e w' ⟨rfl, rfl⟩)
    | (go_at_call 51; refine (refRem_any _ _ _).mono ?_; rintro e w' ⟨rfl, rfl⟩)
    | (go_at_call 47; refine (calls_rel (refAdd_any _ _ _) (by assumption)).mono ?_; rintro e w1 ⟨rfl, hg⟩)
    | (go_at_call 48; refine (calls_rel (refSub_any _ _ _) (by assumption)).mono ?_; rintro e w1 ⟨rfl, hg⟩)
    | (go_at_call 49; refine (calls_rel (refMul_any _ _ _) (by assumption)).mono ?_; rintro e w1 ⟨rfl, hg⟩))
  go_ret
  exact ⟨by first | rfl | simp, by assumption⟩
end Go.Proofs.Yteepkghjphmegab
