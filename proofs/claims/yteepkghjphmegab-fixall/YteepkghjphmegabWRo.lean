/- the walks of Ro -/
import Derived.Test.YteepkghjphmegabWLs3
namespace Go.Proofs.Yteepkghjphmegab
open Go.ChangeShapes Go.WideShapes Go.ChangeAt Go.RowKit
set_option linter.unusedVariables false
set_option linter.unusedSimpArgs false

theorem refSigned_any (neg : Bool) (b : Int) (w : World) (h0 : 0 ≤ b) (h1 : b ≤ 9223372036854775807) :
    Calls Try.prog 41 #[.bool neg, .int .i64 b] w fun e w' => e = .returned (.int .i64 (signedV neg b)) ∧ w' = w := by
  cases neg
  · go_enter Try.func41, Try.ntmps41
    go_wp2
    go_ret
    exact ⟨ret_int rfl, rfl⟩
  · go_enter Try.func41, Try.ntmps41
    go_wp2
    go_ret
    exact ⟨ret_int rfl, rfl⟩
theorem refInfinity_any (neg : Bool) (w : World) :
    Calls Try.prog 43 #[.bool neg] w fun e w' => e = .returned (.int .i64 (signedV neg 9218868437227405312)) ∧ w' = w := by
  go_enter Try.func43, Try.ntmps43
  go_wp2_with (go_at_call 41; refine calls_same (refSigned_any _ _ _ (by omega) (by omega)) ?_)
  go_ret
  exact ⟨rfl, rfl⟩

set_option maxHeartbeats 4000000 in
theorem refRounded_any (neg more : Bool) (v : Value) (N exp : Int) (len B : Nat) (w : World) (hl : BL w B v N len) (h1 : len ≤ 100000) (he1 : -10000 ≤ exp) (he2 : exp ≤ 10000) (hN : 0 < N) :
    Calls Try.prog 26 #[.bool neg, v, .int .i64 exp, .bool more] w fun e w' => ∃ h, e = .returned (.int .i64 (signedV neg (rungV N h exp more))) ∧ topV N h ∧ w' = w := by
  have hlo := hl.lo
  obtain ⟨g, cap, rfl⟩ := hl.some
  go_enter Try.func26, Try.ntmps26
  go_wp2_with fail
  refine (refTop_any w B _ N len (by omega) hl).mono ?_
  rintro e w' ⟨t, rfl, ht, htl, hw⟩
  obtain rfl : w = w' := hw.symm
  have ht' := ht
  rcases ht with ⟨h0, _⟩ | ⟨t0, t1, t2⟩
  · omega
  obtain ⟨k, rfl⟩ : ∃ k : Nat, t = (k : Int) := ⟨t.toNat, by omega⟩
  simp only [Int.toNat_natCast] at t1 t2
  have T1 := hid_mk t1
  have T2 := hid_mk t2
  have HT := hid_mk ht'
  clear t1 t2 ht' hw
  obtain ⟨low, hlow⟩ : ∃ low, low = lowV k exp := ⟨_, rfl⟩
  have hlw : (low = (k : Int) - 52 ∧ -1074 - exp ≤ (k : Int) - 52) ∨ (low = -1074 - exp ∧ (k : Int) - 52 < -1074 - exp) := by rw [hlow]; unfold lowV; omega
  have HL := hid_mk hlow
  clear hlow
  have hl1 : (k : Int) - 52 ≤ low := by omega
  have hl2 : -1074 - exp ≤ low := by omega
  have hl3 : low ≤ 111080 := by omega
  have hl4 : -11080 ≤ low := by omega
  by_cases hm : (k : Int) - 52 < -1074 - exp
  all_goals
    go_wp2
    first | rw [show -1074 - exp = low by omega] | rw [show (k : Int) - 52 = low by omega]
    have M0 := flV_nonneg N low hlo
    have M1 := flV_53 N low k hlo T2.out (by omega)
    have M2 : Hid (flV N low < 4503599627370496 → low + exp = -1074) := by
      intro hlt
      rcases hlw with ⟨e, _⟩ | ⟨e, _⟩
      · have := flV_ge N low k T1.out (by omega)
        have e2 : ((k : Int) - low).toNat = 52 := by omega
        rw [e2, pow52] at this; omega
      · omega
    clear hlw
    go_loop [11, 12] (fun m i => ∃ j : Int, (low - 1 ≤ j ∨ j = k) ∧ j ≤ k ∧ i = .int .i64 j ∧ m = .int .i64 (flV N (j + 1))) (fun _ i => (intOf i - low + 1).toNat)
    case atStart => exact ⟨k, .inr rfl, Int.le_refl _, rfl, by rw [flV_zero N ((k : Int) + 1) (k + 1) hlo T2.out (by omega)]⟩
    case round =>
      obtain ⟨j, hj1, hj2, rfl, rfl⟩ := hrel
      by_cases hge : low ≤ j
      · have S := hid_mk (flV_step N j)
        have n0 := flV_nonneg N (j + 1) hlo
        have n1 := flV_53 N (j + 1) k hlo T2.out (by omega)
        obtain ⟨x0, x1⟩ := atV_01 N j
        go_wp2_with (go_at_call 42; refine calls_same (refAt_any w B _ N len _ hl) ?_)
        go_round
        case rel => exact ⟨j - 1, by omega, by omega, rfl, congrArg (Value.int .i64) (by rw [show j - 1 + 1 = j by omega]; exact S.out.symm)⟩
        case measure => simp [intOf]; omega
      · have HM : Hid (flV N (j + 1) = flV N low) := by
          show flV N (j + 1) = flV N low
          rcases hj1 with h | h
          · rw [show j + 1 = low by omega]
          · rw [h, flV_zero N ((k : Int) + 1) (k + 1) hlo T2.out (by omega), flV_zero N low (k + 1) hlo T2.out (by omega)]
        go_wp2_with (go_at_call 42; refine calls_same (refAt_any w B _ N len _ hl) ?_)
        rw [HM.out]
        clear HM hj1 hj2 hge
        obtain ⟨half, hhf⟩ : ∃ half, half = (atV N (low - 1) == 1) := ⟨_, rfl⟩
        rw [← hhf]
        obtain ⟨m, hmm⟩ : ∃ m, m = flV N low := ⟨_, rfl⟩
        rw [← hmm] at M0 M1 M2 ⊢
        have HH := hid_mk hhf
        have HM := hid_mk hmm
        clear hhf hmm
        go_loop [14, 15] (fun r i => ∃ n : Nat, ((n : Int) ≤ low - 1 ∨ n = 0) ∧ i = .int .i64 n ∧ r = .bool (more || restB N n)) (fun _ i => (low - 1 - intOf i).toNat)
        case atStart => exact ⟨0, .inr rfl, rfl, by simp [restB, Int.emod_one]⟩
        case round =>
          obtain ⟨n, hn, rfl, rfl⟩ := hrel
          have eA : atV N (n : Int) = bit N n := by simp [atV]; intro h; omega
          by_cases hlt : (n : Int) < low - 1
          · have S := hid_mk (restB_succ N n)
            obtain ⟨r, hr⟩ : ∃ r, r = (more || restB N n) := ⟨_, rfl⟩
            rw [← hr]
            have HR := hid_mk hr
            clear hr
            cases r
            all_goals
              go_wp2_with (go_at_call 42; refine calls_same (refAt_any w B _ N len _ hl) ?_; rw [eA])
              go_round
              case rel => exact ⟨n + 1, .inl (by omega), by go_num, congrArg Value.bool (by rw [S.out, ← Bool.or_assoc, ← HR.out]; first | rfl | simp)⟩
              case measure => simp [intOf]; omega
          · have HRn : Hid (rungV N k exp more = min ((low + exp + 1074) * 4503599627370496 + m + (if (half && (more || restB N n || m % 2 == 1)) = true then 1 else 0)) 9218868437227405312) := by
              show rungV N k exp more = _
              unfold rungV upB
              rw [← HL.out, ← HM.out, ← HH.out, show (low - 1).toNat = n by omega]
            obtain ⟨r, hr⟩ : ∃ r, r = (more || restB N n) := ⟨_, rfl⟩
            rw [← hr]
            rw [← hr] at HRn
            clear hr eA hn HL HM HH T1 T2
            have hfin : ∀ u : Int, (half && (r || m % 2 == 1)) = true ∧ u = m + 1 ∨ (half && (r || m % 2 == 1)) = false ∧ u = m → ∀ x : Int,
                (u = 9007199254740992 ∧ low + exp - -1074 + 1 + 1 ≥ 2047 ∧ x = 9218868437227405312 ∨ u = 9007199254740992 ∧ low + exp - -1074 + 1 + 1 < 2047 ∧ x = (low + exp - -1074 + 1 + 1) * 4503599627370496 ∨
                 u < 4503599627370496 ∧ x = u ∨ 4503599627370496 ≤ u ∧ u < 9007199254740992 ∧ low + exp - -1074 + 1 ≥ 2047 ∧ x = 9218868437227405312 ∨
                 4503599627370496 ≤ u ∧ u < 9007199254740992 ∧ low + exp - -1074 + 1 < 2047 ∧ x = (low + exp - -1074 + 1) * 4503599627370496 + u - 4503599627370496) → x = rungV N k exp more := by
              intro u hu x hx
              have m2 := M2.out
              rw [HRn.out]
              rcases hu with ⟨e, rfl⟩ | ⟨e, rfl⟩
              · rw [e, if_pos rfl]; omega
              · rw [e, if_neg Bool.false_ne_true]; omega
            have HF := hid_mk hfin
            clear hfin HRn M2
            have hmod : 0 ≤ m % 2 ∧ m % 2 ≤ 1 := by omega
            obtain ⟨p0, p1⟩ := hmod
            have hpar : m % 2 = 1 ∨ m % 2 = 0 := by omega
            have hu : m + 1 < 9007199254740992 ∨ 9007199254740992 ≤ m + 1 := by omega
            cases half <;> cases r <;> rcases hpar with hpar | hpar <;> rcases hu with hu | hu
            all_goals
              go_wp2_with (first | (go_at_call 41; refine calls_same (refSigned_any _ _ _ (by omega) (by omega)) ?_) | (go_at_call 43; refine calls_same (refInfinity_any _ _) ?_))
              all_goals go_ret
              all_goals first
                | (refine ⟨k, ret_int (congrArg (signedV neg) (HF.out m (.inr ⟨?_, rfl⟩) _ ?_)), HT.out, rfl⟩ <;> first | (simp [hpar]; done) | omega)
                | (refine ⟨k, ret_int (congrArg (signedV neg) (HF.out (m + 1) (.inl ⟨?_, rfl⟩) _ ?_)), HT.out, rfl⟩ <;> first | (simp [hpar]; done) | omega)
end Go.Proofs.Yteepkghjphmegab
