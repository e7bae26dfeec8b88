/- the walks of Rn -/
import Derived.Test.YteepkghjphmegabWRo
namespace Go.Proofs.Yteepkghjphmegab
open Go.ChangeShapes Go.WideShapes Go.ChangeAt Go.RowKit
set_option linter.unusedVariables false
set_option linter.unusedSimpArgs false

set_option maxHeartbeats 400000 in
theorem refRnd_any (neg more : Bool) (v : Value) (N exp : Int) (len B : Nat) (w : World) (hl : BL w B v N len) (h1 : len ≤ 100000) (he1 : -10000 ≤ exp) (he2 : exp ≤ 10000) :
    Calls Try.prog 26 #[.bool neg, v, .int .i64 exp, .bool more] w fun e w' => e = .returned (.int .i64 (rndV neg N exp more)) ∧ w' = w := by
  by_cases hN : 0 < N
  · refine (refRounded_any neg more v N exp len B w hl h1 he1 he2 hN).mono ?_
    rintro e w' ⟨h, rfl, ht, hw⟩
    have := top_log hN ht
    subst this
    exact ⟨ret_int (by unfold rndV; rw [if_neg (by omega)]), hw⟩
  · have hlo := hl.lo
    have hz : N = 0 := by omega
    have HZ := hid_mk hz
    obtain ⟨g, cap, rfl⟩ := hl.some
    clear hz
    go_enter Try.func26, Try.ntmps26
    go_wp2_with fail
    refine (refTop_any w B _ N len (by omega) hl).mono ?_
    rintro e w' ⟨t, rfl, ht, htl, hw⟩
    obtain rfl : w = w' := hw.symm
    have htn : t < 0 := by
      rcases ht with ⟨_, h⟩ | ⟨t0, t1, t2⟩
      · omega
      · have := pow_pos' t.toNat; omega
    clear ht hw
    go_wp2_with (go_at_call 41; refine calls_same (refSigned_any _ _ _ (by omega) (by omega)) ?_)
    go_ret
    exact ⟨ret_int (by unfold rndV; rw [if_pos HZ.out]), rfl⟩
end Go.Proofs.Yteepkghjphmegab
