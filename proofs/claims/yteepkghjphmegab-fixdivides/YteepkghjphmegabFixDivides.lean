/- FixDivides: the walk by contracts, then the row. -/
import Derived.Test.YteepkghjphmegabRows
import Derived.Test.YteepkghjphmegabZi
namespace Go.Proofs.Yteepkghjphmegab.fixDivides
open Go.ChangeShapes Go.WideShapes Go.ChangeAt Go.RowKit
set_option linter.unusedVariables false      -- a walk need not use every 'w<i>' (that an integer argument fits its kind)
set_option linter.unusedSimpArgs false

theorem own : ownKnob Try.prog.godebug = none := by kernel_rfl

/-! ### STEP 1: THE WALK: the Go text returns true. 'Grown w w'': the world has at most new blocks (Derived/RowKit3.lean). Part the cases AHEAD of 'go_enter' where a test parts the walk; take each callee by a contract of your own. -/
set_option maxHeartbeats 8000000 in
theorem walk (a0 : Int) (a1 : Int) (w0 : (Lit.int .i64 a0).wf = true) (w1 : (Lit.int .i64 a1).wf = true) (w : World) :
    Calls Try.prog 7 #[.int .i64 a0, .int .i64 a1] w fun e w' => e = .returned (.bool true) ∧ Below w.heap.size w w' := by
  have h0 := Below.refl w.heap.size w
  obtain ⟨b1, b2⟩ := fwrap_bounds a0
  obtain ⟨b3, b4⟩ := fwrap_bounds a1
  clear w0 w1
  by_cases hd : fwrap a1 = 0
  · have q0 : quotV a0 a1 = 0 := by unfold quotV; rw [if_pos hd]
    have r0 : remV a0 a1 = 0 := by unfold remV; rw [if_pos hd]
    go_enter Try.func7, Try.ntmps7
    go_wp2_with (first
      | (go_at_call 17; refine (fixWrap_any _ _).mono ?_; rintro e w' ⟨rfl, rfl⟩)
      | (go_at_call 19; refine (fixQuot_any _ _ _).mono ?_; rintro e w' ⟨rfl, rfl⟩)
      | (go_at_call 20; refine (fixRem_any _ _ _).mono ?_; rintro e w' ⟨rfl, rfl⟩)
      | (go_at_call 9; refine (calls_rel (alive_any _) (by assumption)).mono ?_; rintro e w1 ⟨rfl, hg⟩))
    all_goals go_ret
    all_goals exact ⟨by first | rfl | (simp; done) | (simp; omega), by assumption⟩
  · obtain ⟨F1, F2, F3, F4, F5, F6, F7, F8⟩ := div_facts a0 a1 hd
    have cq := fixQuot_any a0 a1
    have cr := fixRem_any a0 a1
    have ca := fixWrap_any a0
    have cb := fixWrap_any a1
    generalize quotV a0 a1 = q at *
    generalize remV a0 a1 = r at *
    generalize fwrap a0 = c at *
    generalize fwrap a1 = d at *
    have CQ : Hid (∀ w, Calls Try.prog 19 #[.int .i64 a0, .int .i64 a1] w fun e w' => e = .returned (.int .i64 q) ∧ w' = w) := cq
    have CR : Hid (∀ w, Calls Try.prog 20 #[.int .i64 a0, .int .i64 a1] w fun e w' => e = .returned (.int .i64 r) ∧ w' = w) := cr
    have CA : Hid (∀ w, Calls Try.prog 17 #[.int .i64 a0] w fun e w' => e = .returned (.int .i64 c) ∧ w' = w) := ca
    have CB : Hid (∀ w, Calls Try.prog 17 #[.int .i64 a1] w fun e w' => e = .returned (.int .i64 d) ∧ w' = w) := cb
    clear cq cr ca cb
    have F1' : (fwrap (fwrap (d * q) + r) == c) = true := by rw [F1]; simp
    have H2 := hid_of F2
    have H3 := hid_of F3
    have H4 := hid_of F4
    have H5 := hid_of F5
    have H8 := hid_of F8
    have HD := hid_of hd
    clear F1 F2 F3 F4 F5 F8 hd
    have td : d < 0 ∨ 0 < d := by have := HD.out; omega
    have tc : c < 0 ∨ (c ≤ 0 ∧ 0 ≤ c) ∨ 0 < c := by omega
    have tr : r < 0 ∨ (r ≤ 0 ∧ 0 ≤ r) ∨ 0 < r := by omega
    have tq : q < 0 ∨ (q ≤ 0 ∧ 0 ≤ q) ∨ 0 < q := by omega
    have G1 : (d < 0 → d < r ∧ d < -r) ∧ (0 < d → -d < r ∧ -d < -r) := by (have := H2.out; have := H3.out; omega)
    rcases td with td | td
    · obtain ⟨G2, G3⟩ := G1.1 td
      clear G1
      rcases tc with tc | ⟨tc, tc'⟩ | tc <;> rcases tr with tr | ⟨tr, tr'⟩ | tr <;> rcases tq with tq | ⟨tq, tq'⟩ | tq
      all_goals first
        | (exfalso; have := H4.out; have := H5.out; omega)
        | (exfalso; have := H8.out; have := H2.out; have := H3.out; have := HD.out; omega)
        | (first
             | (have sp : c ≤ -1152921504606846976 ∧ -1152921504606846976 ≤ c ∧ -1 ≤ d ∧ d ≤ -1 := by (have := H8.out; have := HD.out; omega)
                obtain ⟨s1, s2, s3, s4⟩ := sp)
             | skip
           clear H2 H3 H4 H5 H8 HD
           go_enter Try.func7, Try.ntmps7
           go_wp2_with (first
             | (go_at_call 17; first | (refine (CA.out _).mono ?_; rintro e w' ⟨rfl, rfl⟩) | (refine (CB.out _).mono ?_; rintro e w' ⟨rfl, rfl⟩))
             | (go_at_call 19; refine (CQ.out _).mono ?_; rintro e w' ⟨rfl, rfl⟩)
             | (go_at_call 20; refine (CR.out _).mono ?_; rintro e w' ⟨rfl, rfl⟩)
             | (go_at_call 14; refine (fixAdd_any _ _ _).mono ?_; rintro e w' ⟨rfl, rfl⟩)
             | (go_at_call 15; refine (fixMul_any _ _ _).mono ?_; rintro e w' ⟨rfl, rfl⟩)
             | (go_at_call 18; refine (fixFits_any _ _).mono ?_; rintro e w' ⟨rfl, rfl⟩)
             | (go_at_call 9; refine (calls_rel (alive_any _) (by assumption)).mono ?_; rintro e w1 ⟨rfl, hg⟩))
           all_goals go_ret
           all_goals exact ⟨by first | rfl | (simp; done) | (simp [Int.not_lt.mpr (Int.le_of_lt tq), Int.not_lt.mpr (Int.le_of_lt tc), Int.not_lt.mpr (Int.le_of_lt td)]; done) | (simp; omega), by assumption⟩)
    · obtain ⟨G2, G3⟩ := G1.2 td
      clear G1
      rcases tc with tc | ⟨tc, tc'⟩ | tc <;> rcases tr with tr | ⟨tr, tr'⟩ | tr <;> rcases tq with tq | ⟨tq, tq'⟩ | tq
      all_goals first
        | (exfalso; have := H4.out; have := H5.out; omega)
        | (exfalso; have := H8.out; have := H2.out; have := H3.out; have := HD.out; omega)
        | (first
             | (have sp : c ≤ -1152921504606846976 ∧ -1152921504606846976 ≤ c ∧ -1 ≤ d ∧ d ≤ -1 := by (have := H8.out; have := HD.out; omega)
                obtain ⟨s1, s2, s3, s4⟩ := sp)
             | skip
           clear H2 H3 H4 H5 H8 HD
           go_enter Try.func7, Try.ntmps7
           go_wp2_with (first
             | (go_at_call 17; first | (refine (CA.out _).mono ?_; rintro e w' ⟨rfl, rfl⟩) | (refine (CB.out _).mono ?_; rintro e w' ⟨rfl, rfl⟩))
             | (go_at_call 19; refine (CQ.out _).mono ?_; rintro e w' ⟨rfl, rfl⟩)
             | (go_at_call 20; refine (CR.out _).mono ?_; rintro e w' ⟨rfl, rfl⟩)
             | (go_at_call 14; refine (fixAdd_any _ _ _).mono ?_; rintro e w' ⟨rfl, rfl⟩)
             | (go_at_call 15; refine (fixMul_any _ _ _).mono ?_; rintro e w' ⟨rfl, rfl⟩)
             | (go_at_call 18; refine (fixFits_any _ _).mono ?_; rintro e w' ⟨rfl, rfl⟩)
             | (go_at_call 9; refine (calls_rel (alive_any _) (by assumption)).mono ?_; rintro e w1 ⟨rfl, hg⟩))
           all_goals go_ret
           all_goals exact ⟨by first | rfl | (simp; done) | (simp [Int.not_lt.mpr (Int.le_of_lt tq), Int.not_lt.mpr (Int.le_of_lt tc), Int.not_lt.mpr (Int.le_of_lt td)]; done) | (simp; omega), by assumption⟩)

/-! ### THE ROW's STEP: WRITTEN OUT: LEAVE IT -/
set_option maxRecDepth 100000 in
theorem lifted (os : Os) (started : os.Started) (H : Type) (enc : TypeId × Value → H) :
    ReturnsInHanded {} Try.checked os 7 .any (Rows.fixDividesSpec.pre6 enc Try.prog Try.f7 Rows.fixDividesRow.domain false) (Rows.fixDividesSpec.post enc Try.prog Try.f7 false true false false) := by
  refine returnsInHanded_of_change (C := Try.checked) own started (by kernel_rfl) Try.func7
    (ChangeSpec.witness6 (enc := enc) (C := Try.checked) false ⟨#[], #[.int .i64 0, .int .i64 0], []⟩ 8 (by kernel_rfl) (by kernel_rfl) (by kernel_rfl) (by kernel_rfl)) ?_
  intro W base args ds gs before hval0 hW hcnd _
  have hval : ∀ (j : Nat) t v, Try.f7.params[j]? = some t → args[j]? = some v → Value.okWide Try.prog W .any base t v := hval0
  have hW' := hW
  obtain ⟨p, q, hA0, hV, rfl, hfz, hnd⟩ := hW
  have hA : DataW.TrodAll enc Try.prog W 0 (fun _ => true) true Try.f7.params.toList args.toList ds p := hA0
  rw [Try.params7] at hA hval
  obtain ⟨v0, vs0, d0, ds0, p0, q0, hargs, rfl, rfl, h0, r0⟩ := trodAll_cons hA
  obtain ⟨v1, vs1, d1, ds1, p1, q1, rfl, rfl, rfl, h1, r1⟩ := trodAll_cons r0
  obtain ⟨rfl, rfl, rfl⟩ := trodAll_nil r1
  obtain rfl : args = #[v0, v1] := by cases args; simp_all
  obtain ⟨rfl, rfl⟩ := trodVars_none hV
  obtain ⟨a0, rfl, rfl, rfl, w0⟩ := open_int Try.underlying3 (hval 0 3 v0 rfl rfl) h0
  obtain ⟨a1, rfl, rfl, rfl, w1⟩ := open_int Try.underlying3 (hval 1 3 v1 rfl rfl) h1
  clear hA0 hval0
  simp only [List.append_nil] at hW'
  refine (walk a0 a1 w0 w1 W).mono fun e W' ⟨he, hg⟩ => ?_
  subst he
  exact ⟨_, rfl, _, _, _, [], [], [], hW', (trodAll_cons_mk (shut_bool Try.underlying4 _) trodAll_mk0), (trodAll_cons_mk (shut_int Try.underlying3 w0) (trodAll_cons_mk (shut_int Try.underlying3 w1) trodAll_mk0)), rfl, hg.frame _, fun h => by cases h⟩

theorem over : Rows.fixDividesRow.holds Try.pinned (OpenSpec.ofChange Rows.fixDividesSpec) :=
  OpenClaim.holds_of_wide 7 Try.f7 rfl rfl rfl rfl rfl rfl rfl ⟨rfl, rfl, rfl, rfl, rfl⟩ rfl rfl rfl rfl rfl (by kernel_rfl) Try.func7 (by kernel_rfl)
    (of_decide_eq_true (by kernel_rfl)) (by unfold Func.isWrapper; first | (rw [if_pos (by decide +kernel)]; kernel_rfl) | (rw [if_neg (by decide +kernel)]; exact ⟨rfl, rfl⟩))
    (fun os started H enc _ => lifted os started H enc)

/-- ████ THE STATEMENT ████ -/
theorem proved : Rows.FixDividesSaid :=
  over
#print axioms proved
end Go.Proofs.Yteepkghjphmegab.fixDivides
