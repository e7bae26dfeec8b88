/- from whole numbers to floats and back, as the document's answer reckons -/
import Derived.Test.YteepkghjphmegabWRn
import Derived.Test.YteepkghjphmegabTf
namespace Go.Proofs.Yteepkghjphmegab
open Go.ChangeShapes Go.WideShapes Go.ChangeAt Go.RowKit
set_option linter.unusedVariables false
set_option linter.unusedSimpArgs false

theorem refSizeT_any (v : Int) (w : World) (h1 : -9223372036854775807 ≤ v) :
    Calls Try.prog 28 #[.int .i64 v] w fun e w' => e = .returned (.int .i64 v.natAbs) ∧ w' = w := by
  by_cases h : v < 0
  · go_enter Try.func28, Try.ntmps28
    go_wp2
    go_ret
    refine ⟨ret_int ?_, rfl⟩
    first | omega | (unfold wrap64; omega)
  · go_enter Try.func28, Try.ntmps28
    go_wp2
    go_ret
    exact ⟨ret_int (by omega), rfl⟩
set_option maxHeartbeats 400000 in
theorem refToFlo_any (v : Int) (w : World) :
    Calls Try.prog 11 #[.int .i64 v] w fun e w' => e = .returned (.int .i64 (toFloV (fwrap v))) ∧ Below w.heap.size w w' := by
  obtain ⟨b1, b2⟩ := fwrap_bounds v
  go_enter Try.func11, Try.ntmps11
  go_wp2_with (first | (go_at_call 25; refine calls_same (refWrap_any _ _) ?_) | (go_at_call 28; refine calls_same (refSizeT_any _ _ (by omega)) ?_))
  refine (refList_any ((fwrap v).natAbs : Int) 0 w (by omega) (by omega) (by omega)).mono ?_
  rintro e w1 ⟨v1, len, rfl, hl, hb, hbe⟩
  have hb' : BL w1 w.heap.size v1 ((fwrap v).natAbs : Int) len := by simpa using hb
  clear hb
  go_wp2_with (go_at_call 26; refine calls_same (refRnd_any _ _ _ _ _ _ _ _ hb' (by omega) (by omega) (by omega)) ?_)
  go_ret
  exact ⟨rfl, hbe⟩

theorem heap_ltT {W : World} {g : Nat} {o : Obj} (h : W.heap[g]? = some o) : g < W.heap.size := (Array.getElem?_eq_some_iff.1 h).1
theorem ok_fits (a : Int) (na : pNone a = false) (ia : pInf a = false) (he : pExp a ≤ 8) : fitsB (sg (pNeg a) (flV (pWhole a) (-(pExp a)))) = okV a := by
  have hw := pWhole_bounds a
  have hr := rg_bounds a
  have hok : okV a = (decide (pExp a ≤ 7) || (decide (pExp a = 8) && pNeg a && decide (pWhole a = 4503599627370496))) := by unfold okV; simp [na, ia]
  have hM0 := flV_nonneg (pWhole a) (-(pExp a)) hw.1
  by_cases h7 : pExp a ≤ 7
  · have hM : flV (pWhole a) (-(pExp a)) ≤ 1152921504606846975 := by
      unfold flV
      by_cases h0 : 0 ≤ -(pExp a)
      · rw [if_pos h0]
        exact Int.le_trans (Int.ediv_le_self _ hw.1) (by omega)
      · rw [if_neg h0]
        have hp : (2 : Int) ^ (- -(pExp a)).toNat ≤ 2 ^ 7 := pow_le_pow (by omega)
        have m1 := Int.mul_le_mul_of_nonneg_left hp hw.1
        have : (2 : Int) ^ 7 = 128 := by decide
        rw [this] at m1; omega
    rw [hok, decide_eq_true h7]
    unfold fitsB sg
    cases pNeg a <;> simp <;> omega
  · have h8 : pExp a = 8 := by omega
    have hM : flV (pWhole a) (-(pExp a)) = pWhole a * 256 := by rw [h8]; rfl
    have hnorm : 4503599627370496 ≤ pWhole a := by
      unfold pExp at h8
      by_cases c : rg a < 4503599627370496
      · rw [if_pos c] at h8; omega
      · rw [if_neg c] at h8
        by_cases c2 : rg a < 9218868437227405312
        · unfold pWhole; rw [if_neg c, if_pos c2]; omega
        · rw [if_neg c2] at h8; omega
    rw [hok, hM, h8]
    unfold fitsB sg
    rw [Bool.eq_iff_iff]
    cases pNeg a <;> simp <;> omega

set_option maxHeartbeats 4000000 in
theorem refToFix_any (a : Int) (w : World) (h1 : -9223372036854775808 ≤ a) (h2 : a ≤ 9223372036854775807) :
    Calls Try.prog 30 #[.int .i64 a] w fun e w' => e = .returned (.tuple #[.int .i64 (nV a), .bool (okV a)]) ∧ Below w.heap.size w w' := by
  obtain ⟨wa0, wa1⟩ := pWhole_bounds a
  obtain ⟨ea0, ea1⟩ := pExp_bounds a
  obtain ⟨nA, hnA⟩ : ∃ x, x = pNone a := ⟨_, rfl⟩
  obtain ⟨iA, hiA⟩ : ∃ x, x = pInf a := ⟨_, rfl⟩
  obtain ⟨gA, hgA⟩ : ∃ x, x = pNeg a := ⟨_, rfl⟩
  have HfA : Hid (flo a = .agg #[.bool gA, .bool iA, .bool nA, .int .i64 (pWhole a), .int .i64 (pExp a)]) := by
    show flo a = _; rw [hnA, hiA, hgA]; rfl
  have HV : Hid ((nA = true ∨ iA = true ∨ 8 < pExp a) → okV a = false ∧ nV a = 0) := by
    intro h
    have hk : okV a = false := by
      unfold okV; rw [← hnA, ← hiA]
      rcases h with h | h | h
      · simp [h]
      · simp [h]
      · have e1 : decide (pExp a ≤ 7) = false := decide_eq_false (by omega)
        have e2 : decide (pExp a = 8) = false := decide_eq_false (by omega)
        simp [e1, e2]
    exact ⟨hk, by unfold nV; rw [if_neg (by simp [hk])]⟩
  have HK : Hid (nA = false → iA = false → pExp a ≤ 8 → fitsB (sg gA (flV (pWhole a) (-(pExp a)))) = okV a) := by
    intro x y z; rw [hgA]; exact ok_fits a (hnA ▸ x) (hiA ▸ y) z
  have HN : Hid (nV a = if okV a = true then sg gA (flV (pWhole a) (-(pExp a))) else 0) := by show nV a = _; unfold nV; rw [hgA]
  clear hnA hiA hgA
  go_enter Try.func30, Try.ntmps30
  go_wp2_with fail
  refine (refParts_any a _ h1 h2).mono ?_
  rintro e w1 ⟨rfl, hg1⟩
  rw [HfA.out]
  clear HfA
  cases nA
  case true =>
    obtain ⟨hk, hn⟩ := HV.out (.inl rfl)
    go_wp2
    all_goals go_ret2
    all_goals exact ⟨by first | rfl | (rw [hk, hn]; rfl), hg1.alloc hg1.size _⟩
  case false =>
    cases iA
    case true =>
      obtain ⟨hk, hn⟩ := HV.out (.inr (.inl rfl))
      go_wp2
      all_goals go_ret2
      all_goals exact ⟨by first | rfl | (rw [hk, hn]; rfl), hg1.alloc hg1.size _⟩
    case false =>
      by_cases h8 : 8 < pExp a
      · obtain ⟨hk, hn⟩ := HV.out (.inr (.inr h8))
        go_wp2
        all_goals go_ret2
        all_goals exact ⟨by first | rfl | (rw [hk, hn]; rfl), hg1.alloc hg1.size _⟩
      · have hfit := HK.out rfl rfl (by omega)
        have hW := hg1.alloc hg1.size (.cells #[.bool gA, .bool false, .bool false, .int .i64 (pWhole a), .int .i64 (pExp a)] 51)
        clear HV HK
        obtain ⟨M, hM⟩ : ∃ M, M = flV (pWhole a) (-(pExp a)) := ⟨_, rfl⟩
        rw [← hM] at hfit HN
        have hM0 : 0 ≤ M := by rw [hM]; exact flV_nonneg _ _ wa0
        have hM1 : M ≤ 2305843009213693952 := by
          rw [hM]; unfold flV
          by_cases h0 : 0 ≤ -(pExp a)
          · rw [if_pos h0]
            exact Int.le_trans (Int.ediv_le_self _ wa0) (by omega)
          · rw [if_neg h0]
            have hp : (2 : Int) ^ (- -(pExp a)).toNat ≤ 2 ^ 8 := pow_le_pow (by omega)
            have m1 := Int.mul_le_mul_of_nonneg_left hp wa0
            have : (2 : Int) ^ 8 = 256 := by decide
            rw [this] at m1; omega
        have HM := hid_mk hM
        have HFit := hid_mk hfit
        clear hM hfit
        go_wp2_with fail
        go_loop [5, 6] (fun n i => ∃ k : Nat, (k = 0 ∨ (k : Int) ≤ pExp a) ∧ i = .int .i64 k ∧ n = .int .i64 (pWhole a * 2 ^ k)) (fun _ i => (pExp a - intOf i).toNat)
        case atStart => exact ⟨0, .inl rfl, rfl, by simp⟩
        case round =>
          obtain ⟨k, hk, rfl, rfl⟩ := hrel
          have hk8 : k ≤ 8 := by omega
          have hp : (2 : Int) ^ k ≤ 2 ^ 8 := pow_le_pow hk8
          have hp0 := pow_pos' k
          have m1 := Int.mul_le_mul_of_nonneg_left hp wa0
          have e8 : (2 : Int) ^ 8 = 256 := by decide
          rw [e8] at m1
          have m0 : 0 ≤ pWhole a * 2 ^ k := Int.mul_nonneg wa0 (by omega)
          clear e8 hp
          by_cases hlt : (k : Int) < pExp a
          · have P2 : Hid (pWhole a * 2 ^ k + pWhole a * 2 ^ k = pWhole a * 2 ^ (k + 1)) := by
              show pWhole a * 2 ^ k + pWhole a * 2 ^ k = pWhole a * 2 ^ (k + 1)
              rw [pow_succ', Int.mul_left_comm]; omega
            go_wp2
            go_round
            case rel => exact ⟨k + 1, .inr (by omega), by go_num, congrArg (Value.int .i64) P2.out⟩
            case measure => simp [intOf]; omega
          · obtain ⟨N1, hN1⟩ : ∃ N1, N1 = pWhole a * 2 ^ k := ⟨_, rfl⟩
            rw [← hN1] at m0 m1 ⊢
            have H1 : Hid (∀ m : Nat, (m = 0 ∨ (m : Int) ≤ -(pExp a)) → (¬ -(m : Int) > pExp a ∨ ¬ N1 / 2 ^ m > 0) → N1 / 2 ^ m = M) := by
              intro m hm hx
              rw [HM.out]
              unfold flV
              by_cases he : 0 < pExp a
              · have hke : (k : Int) = pExp a := by omega
                have hm0 : m = 0 := by omega
                rw [if_neg (by omega), hm0, hN1, show (- -(pExp a)).toNat = k by omega]; simp
              · have hk0 : k = 0 := by omega
                have hN : N1 = pWhole a := by rw [hN1, hk0]; simp
                rw [if_pos (by omega), hN]
                rw [hN] at hx
                by_cases hmm : m = (-(pExp a)).toNat
                · rw [hmm]
                · have hz : ¬ pWhole a / 2 ^ m > 0 := by omega
                  have hge := Int.ediv_nonneg wa0 (Int.le_of_lt (pow_pos' m))
                  have hz0 : pWhole a / 2 ^ m = 0 := by omega
                  rw [hz0]
                  obtain ⟨d, hd⟩ : ∃ d, (-(pExp a)).toNat = m + d := ⟨(-(pExp a)).toNat - m, by omega⟩
                  rw [hd, Int.pow_add, ← Int.ediv_ediv_of_nonneg (Int.le_of_lt (pow_pos' m)), hz0]; simp
            clear hN1 hk
            go_wp2_with fail
            go_loop [5, 7] (fun n i => ∃ m : Nat, (m = 0 ∨ (m : Int) ≤ -(pExp a)) ∧ i = .int .i64 (-(m : Int)) ∧ n = .int .i64 (N1 / 2 ^ m)) (fun _ i => (intOf i - pExp a).toNat)
            case atStart => exact ⟨0, .inl rfl, rfl, by simp⟩
            case round =>
              obtain ⟨m, hm, rfl, rfl⟩ := hrel
              have hge := Int.ediv_nonneg m0 (Int.le_of_lt (pow_pos' m))
              have hle := Int.ediv_le_self (2 ^ m) m0
              have HX := hid_mk (H1.out m hm)
              have HS := hid_mk (div_succ N1 m)
              obtain ⟨q, hq⟩ : ∃ q, q = N1 / 2 ^ m := ⟨_, rfl⟩
              rw [← hq] at hge hle HX HS ⊢
              clear hq
              by_cases c1 : pExp a < -(m : Int)
              · by_cases c2 : 0 < q
                · go_wp2
                  go_round
                  case rel => exact ⟨m + 1, .inr (by omega), by go_num, congrArg (Value.int .i64) HS.out.symm⟩
                  case measure => simp [intOf]; omega
                · skip
                  have hqM : q = M := HX.out (by omega)
                  have hq1 : q ≤ 2305843009213693952 := by omega
                  have HQ := hid_mk hqM
                  clear hqM
                  cases gA
                  all_goals
                    cases hkk : okV a
                    all_goals
                      have hf' := HFit.out
                      rw [hkk, ← HQ.out] at hf'
                      simp only [sg, Bool.false_eq_true, if_false, if_true] at hf'
                      go_wp2_with (go_at_call 46; refine calls_same (refFits_any _ _) ?_)
                      all_goals go_ret2
                      all_goals exact ⟨by rw [HN.out, hkk, ← HQ.out]; first | rfl | simp [sg], hW⟩
              · skip
                have hqM : q = M := HX.out (by omega)
                have hq1 : q ≤ 2305843009213693952 := by omega
                have HQ := hid_mk hqM
                clear hqM
                cases gA
                all_goals
                  cases hkk : okV a
                  all_goals
                    have hf' := HFit.out
                    rw [hkk, ← HQ.out] at hf'
                    simp only [sg, Bool.false_eq_true, if_false, if_true] at hf'
                    go_wp2_with (go_at_call 46; refine calls_same (refFits_any _ _) ?_)
                    all_goals go_ret2
                    all_goals exact ⟨by rw [HN.out, hkk, ← HQ.out]; first | rfl | simp [sg], hW⟩

theorem toFlo_range (n : Int) : -9223372036854775808 ≤ toFloV n ∧ toFloV n ≤ 9223372036854775807 := rnd_range _ _ _
set_option maxHeartbeats 400000 in
theorem fixed_any (b : Int) (w : World) (h1 : -9223372036854775808 ≤ b) (h2 : b ≤ 9223372036854775807) :
    Calls Try.prog 12 #[.int .i64 b] w fun e w' => e = .returned (.bool true) ∧ Below w.heap.size w w' := by
  have h0 := Below.refl w.heap.size w
  go_enter Try.func12, Try.ntmps12
  go_wp2_with (first
    | (go_at_call 29; refine (calls_rel (fixToFix_any _ _ h1 h2) (by assumption)).mono ?_; rintro e w1 ⟨rfl, hg⟩)
    | (go_at_call 30; refine (calls_rel (refToFix_any _ _ h1 h2) (by assumption)).mono ?_; rintro e w1 ⟨rfl, hg⟩))
  go_ret
  exact ⟨by first | rfl | simp, by assumption⟩
end Go.Proofs.Yteepkghjphmegab
