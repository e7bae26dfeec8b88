/- the walks of Fs -/
import Derived.Test.YteepkghjphmegabWFc
namespace Go.Proofs.Yteepkghjphmegab
open Go.ChangeShapes Go.WideShapes Go.ChangeAt Go.RowKit
set_option linter.unusedVariables false
set_option linter.unusedSimpArgs false

theorem refFloAdd_any (a b : Int) (w : World) (ha1 : -9223372036854775808 ≤ a) (ha2 : a ≤ 9223372036854775807) (hb1 : -9223372036854775808 ≤ b) (hb2 : b ≤ 9223372036854775807) :
    Calls Try.prog 53 #[.int .i64 a, .int .i64 b] w fun e w' => e = .returned (.int .i64 (addV a b)) ∧ Below w.heap.size w w' := by
  by_cases hsp : pNone a = true ∨ pNone b = true ∨ pInf a = true ∨ pInf b = true
  · exact refFloAdd_sp a b w ha1 ha2 hb1 hb2 hsp
  · have na : pNone a = false := Bool.eq_false_iff.mpr (fun h => hsp (.inl h))
    have nb : pNone b = false := Bool.eq_false_iff.mpr (fun h => hsp (.inr (.inl h)))
    have ia : pInf a = false := Bool.eq_false_iff.mpr (fun h => hsp (.inr (.inr (.inl h))))
    have ib : pInf b = false := Bool.eq_false_iff.mpr (fun h => hsp (.inr (.inr (.inr h))))
    have e : addV a b = finAdd a b := by
      unfold addV; rw [if_neg (by simp [na, nb, ia]), if_neg (by simp [ia]), if_neg (by simp [ib])]
    rw [e]
    by_cases hs : pNeg a = pNeg b
    · exact refFloAdd_same a b w ha1 ha2 hb1 hb2 na nb ia ib hs
    · exact refFloAdd_diff a b w ha1 ha2 hb1 hb2 na nb ia ib hs

set_option maxHeartbeats 400000 in
theorem refFloSub_any (a b : Int) (w : World) (ha1 : -9223372036854775808 ≤ a) (ha2 : a ≤ 9223372036854775807) (hb1 : -9223372036854775808 ≤ b) (hb2 : b ≤ 9223372036854775807) :
    Calls Try.prog 55 #[.int .i64 a, .int .i64 b] w fun e w' => e = .returned (.int .i64 (subV a b)) ∧ Below w.heap.size w w' := by
  have f2 := fld2
  have hc := refFloAdd_any a (flipV b)
  have HC : Hid (∀ w, Calls Try.prog 53 #[.int .i64 a, .int .i64 (flipV b)] w fun e w' => e = .returned (.int .i64 (addV a (flipV b))) ∧ Below w.heap.size w w') := fun w => hc w ha1 ha2 (flip_bounds b).1 (flip_bounds b).2
  clear hc
  by_cases nb : pNone b = true
  · have HV : Hid (subV a b = noNum) := by
      show addV a (flipV b) = noNum
      unfold addV; rw [if_pos (.inr (.inl (by unfold pNone at *; rw [flip_rg]; exact nb)))]
    go_enter Try.func55, Try.ntmps55
    go_wp2_with (go_at_call 45; refine (refParts_any _ _ hb1 hb2).mono ?_; rintro e w1 ⟨rfl, hg⟩)
    go_ret
    exact ⟨ret_int HV.out.symm, by assumption⟩
  · have nb' := Bool.eq_false_iff.mpr nb
    clear nb
    have h0 := Below.refl w.heap.size w
    by_cases hneg : b < 0
    · have hflip : flipV b = wrap64 (b + -9223372036854775808) := rfl
      have HFl := hid_mk hflip
      clear hflip
      go_enter Try.func55, Try.ntmps55
      go_wp2_with (first | (go_at_call 45; refine (calls_rel (refParts_any _ _ hb1 hb2) (by assumption)).mono ?_; rintro e w1 ⟨rfl, hg⟩) | (go_at_call 53; refine (calls_rel (HC.out _) (by assumption)).mono ?_; rintro e w1 ⟨rfl, hg⟩))
      go_ret
      exact ⟨rfl, by assumption⟩
    · have hflip : flipV b = b + -9223372036854775808 := by unfold flipV wrap64; omega
      rw [hflip] at HC
      have HFl := hid_mk hflip
      clear hflip
      go_enter Try.func55, Try.ntmps55
      go_wp2_with (first | (go_at_call 45; refine (calls_rel (refParts_any _ _ hb1 hb2) (by assumption)).mono ?_; rintro e w1 ⟨rfl, hg⟩) | (go_at_call 53; refine (calls_rel (HC.out _) (by assumption)).mono ?_; rintro e w1 ⟨rfl, hg⟩))
      go_ret
      exact ⟨ret_int (by unfold subV; rw [HFl.out]), by assumption⟩
end Go.Proofs.Yteepkghjphmegab
