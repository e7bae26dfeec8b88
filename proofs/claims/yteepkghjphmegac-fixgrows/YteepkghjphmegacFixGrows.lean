/- FixGrows: the walk by contracts, then the row. -/
import Derived.Test.YteepkghjphmegacRows
import Derived.Test.YteepkghjphmegacM7
namespace Go.Proofs.Yteepkghjphmegac.fixGrows
open Go.ChangeShapes Go.WideShapes Go.ChangeAt Go.RowKit
set_option linter.unusedVariables false      -- a walk need not use every 'w<i>' (that an integer argument fits its kind)
set_option linter.unusedSimpArgs false

theorem own : ownKnob Try.prog.godebug = none := by kernel_rfl

/-! ### STEP 1: THE WALK: the Go text returns true. 'Grown w w'': the world has at most new blocks (Derived/RowKit3.lean). Part the cases AHEAD of 'go_enter' where a test parts the walk; take each callee by a contract of your own. -/
set_option maxHeartbeats 8000000 in
theorem walk (a0 : Int) (a1 : Int) (a2 : Int) (w0 : (Lit.int .i64 a0).wf = true) (w1 : (Lit.int .i64 a1).wf = true) (w2 : (Lit.int .i64 a2).wf = true) (w : World) :
    Calls Try.prog 4 #[.int .i64 a0, .int .i64 a1, .int .i64 a2] w fun e w' => e = .returned (.bool true) ∧ Below w.heap.size w w' := by
  obtain ⟨i1, i2⟩ := i64_bounds w0
  obtain ⟨i3, i4⟩ := i64_bounds w1
  obtain ⟨i5, i6⟩ := i64_bounds w2
  have hD : bits .and .i64 a2 9223372036854775807 = rg a2 := and_mask a2
  have hr := rg_bounds a2
  have hDr : rg (rg a2) = rg a2 := by unfold rg; omega
  have hDn : pNeg (rg a2) = false := by unfold pNeg; rw [decide_eq_false_iff_not]; omega
  have facts : ∀ x y : Int, -9223372036854775808 ≤ x → x ≤ 9223372036854775807 → -9223372036854775808 ≤ y → y ≤ 9223372036854775807 → rg x < 9218868437227405312 → rg y < 9218868437227405312 → rg a2 < 9218868437227405312 → ¬ ordV y < ordV x →
      lessB (floR .add y a2) (floR .add x a2) = false ∧ lessB (floR .sub y a2) (floR .sub x a2) = false ∧ lessB (floR .mul y (bits .and .i64 a2 9223372036854775807)) (floR .mul x (bits .and .i64 a2 9223372036854775807)) = false ∧
      ((bits .and .i64 a2 9223372036854775807 == 0) = false → lessB (floR .quo y (bits .and .i64 a2 9223372036854775807)) (floR .quo x (bits .and .i64 a2 9223372036854775807)) = false) := by
    intro x y x1 x2 y1 y2 fx fy fc h
    rw [hD]
    refine ⟨grow_add x y a2 x1 x2 y1 y2 i5 i6 fx fy fc h, grow_sub x y a2 x1 x2 y1 y2 i5 i6 fx fy fc h, grow_mul x y (rg a2) x1 x2 y1 y2 (by omega) (by omega) fx fy (by rw [hDr]; exact fc) hDn h, fun hz => ?_⟩
    refine grow_div x y (rg a2) x1 x2 y1 y2 (by omega) (by omega) fx fy (by rw [hDr]; exact fc) hDn ?_ h
    have hz' : rg a2 ≠ 0 := by simpa using hz
    unfold pWhole
    rw [hDr]
    by_cases c : rg a2 < 4503599627370496
    · rw [if_pos c]; omega
    · rw [if_neg c, if_pos fc]; omega
  have key : ∀ (fa fb fc l z : Bool), decide (rg a0 < 9218868437227405312) = fa → decide (rg a1 < 9218868437227405312) = fb → decide (rg a2 < 9218868437227405312) = fc → lessB a1 a0 = l → (bits .and .i64 a2 9223372036854775807 == 0) = z →
      (fa = true → fb = true → fc = true → l = false → lessB (floR .add a1 a2) (floR .add a0 a2) = false ∧ lessB (floR .sub a1 a2) (floR .sub a0 a2) = false ∧ lessB (floR .mul a1 (bits .and .i64 a2 9223372036854775807)) (floR .mul a0 (bits .and .i64 a2 9223372036854775807)) = false ∧ (z = false → lessB (floR .quo a1 (bits .and .i64 a2 9223372036854775807)) (floR .quo a0 (bits .and .i64 a2 9223372036854775807)) = false)) →
      (fa = true → fb = true → fc = true → l = true → lessB (floR .add a0 a2) (floR .add a1 a2) = false ∧ lessB (floR .sub a0 a2) (floR .sub a1 a2) = false ∧ lessB (floR .mul a0 (bits .and .i64 a2 9223372036854775807)) (floR .mul a1 (bits .and .i64 a2 9223372036854775807)) = false ∧ (z = false → lessB (floR .quo a0 (bits .and .i64 a2 9223372036854775807)) (floR .quo a1 (bits .and .i64 a2 9223372036854775807)) = false)) →
      Calls Try.prog 4 #[.int .i64 a0, .int .i64 a1, .int .i64 a2] w fun e w' => e = .returned (.bool true) ∧ Below w.heap.size w w' := by
    clear facts hD hr hDr hDn
    intro fa fb fc l z k1 k2 k3 k4 k5 p1 p2
    have h0 := Below.refl w.heap.size w
    have P1 := hid_mk p1
    have P2 := hid_mk p2
    clear p1 p2 w0 w1 w2 i1 i2 i3 i4 i5 i6
    cases fa <;> cases fb <;> cases fc <;> cases l <;> cases z
    all_goals
      first
        | (obtain ⟨q1, q2, q3, q4⟩ := P1.out rfl rfl rfl rfl; have q5 := q4 rfl; clear q4)
        | (obtain ⟨q1, q2, q3, q4⟩ := P1.out rfl rfl rfl rfl; clear q4)
        | (obtain ⟨q1, q2, q3, q4⟩ := P2.out rfl rfl rfl rfl; have q5 := q4 rfl; clear q4)
        | (obtain ⟨q1, q2, q3, q4⟩ := P2.out rfl rfl rfl rfl; clear q4)
        | skip
      clear P1 P2
      go_enter Try.func4, Try.ntmps4
      go_wp2_with (first
        | (go_at_call 14; refine (calls_rel (alive_any _) (by assumption)).mono ?_; rintro e w1 ⟨rfl, hg⟩)
        | (go_at_call 12; refine calls_same (finite_any _ _) ?_)
        | (go_at_call 15; refine calls_same (fixFloLess_any _ _ _) ?_)
        | (go_at_call 7; refine (calls_rel (fixFloAdd_any _ _ _) (by assumption)).mono ?_; rintro e w1 ⟨rfl, hg⟩)
        | (go_at_call 9; refine (calls_rel (fixFloSub_any _ _ _) (by assumption)).mono ?_; rintro e w1 ⟨rfl, hg⟩)
        | (go_at_call 8; refine (calls_rel (fixFloMul_any _ _ _) (by assumption)).mono ?_; rintro e w1 ⟨rfl, hg⟩)
        | (go_at_call 11; refine (calls_rel (fixFloDiv_any _ _ _) (by assumption)).mono ?_; rintro e w1 ⟨rfl, hg⟩))
      all_goals go_ret
      all_goals exact ⟨by first | rfl | simp, by assumption⟩
  refine key _ _ _ _ _ rfl rfl rfl rfl rfl ?_ ?_
  · intro f1 f2 f3 hl
    have f1 := of_decide_eq_true f1
    have f2 := of_decide_eq_true f2
    have f3 := of_decide_eq_true f3
    refine facts a0 a1 i1 i2 i3 i4 f1 f2 f3 ?_
    rw [less_link a1 a0 i3 i4 i1 i2] at hl
    unfold lessV at hl
    have n0 : pNone a0 = false := by unfold pNone; rw [decide_eq_false_iff_not]; omega
    have n1 : pNone a1 = false := by unfold pNone; rw [decide_eq_false_iff_not]; omega
    rw [n0, n1] at hl
    simpa using hl
  · intro f1 f2 f3 hl
    have f1 := of_decide_eq_true f1
    have f2 := of_decide_eq_true f2
    have f3 := of_decide_eq_true f3
    refine facts a1 a0 i3 i4 i1 i2 f2 f1 f3 ?_
    rw [less_link a1 a0 i3 i4 i1 i2] at hl
    unfold lessV at hl
    simp at hl
    omega

/-! ### THE ROW's STEP: WRITTEN OUT: LEAVE IT -/
set_option maxRecDepth 100000 in
theorem lifted (os : Os) (started : os.Started) (H : Type) (enc : TypeId × Value → H) :
    ReturnsInHanded {} Try.checked os 4 .any (Rows.fixGrowsSpec.pre6 enc Try.prog Try.f4 Rows.fixGrowsRow.domain false) (Rows.fixGrowsSpec.post enc Try.prog Try.f4 false true false false) := by
  refine returnsInHanded_of_change (C := Try.checked) own started (by kernel_rfl) Try.func4
    (ChangeSpec.witness6 (enc := enc) (C := Try.checked) false ⟨#[], #[.int .i64 0, .int .i64 0, .int .i64 0], []⟩ 8 (by kernel_rfl) (by kernel_rfl) (by kernel_rfl) (by kernel_rfl)) ?_
  intro W base args ds gs before hval0 hW hcnd _
  have hval : ∀ (j : Nat) t v, Try.f4.params[j]? = some t → args[j]? = some v → Value.okWide Try.prog W .any base t v := hval0
  have hW' := hW
  obtain ⟨p, q, hA0, hV, rfl, hfz, hnd⟩ := hW
  have hA : DataW.TrodAll enc Try.prog W 0 (fun _ => true) true Try.f4.params.toList args.toList ds p := hA0
  rw [Try.params4] at hA hval
  obtain ⟨v0, vs0, d0, ds0, p0, q0, hargs, rfl, rfl, h0, r0⟩ := trodAll_cons hA
  obtain ⟨v1, vs1, d1, ds1, p1, q1, rfl, rfl, rfl, h1, r1⟩ := trodAll_cons r0
  obtain ⟨v2, vs2, d2, ds2, p2, q2, rfl, rfl, rfl, h2, r2⟩ := trodAll_cons r1
  obtain ⟨rfl, rfl, rfl⟩ := trodAll_nil r2
  obtain rfl : args = #[v0, v1, v2] := by cases args; simp_all
  obtain ⟨rfl, rfl⟩ := trodVars_none hV
  obtain ⟨a0, rfl, rfl, rfl, w0⟩ := open_int Try.underlying3 (hval 0 3 v0 rfl rfl) h0
  obtain ⟨a1, rfl, rfl, rfl, w1⟩ := open_int Try.underlying3 (hval 1 3 v1 rfl rfl) h1
  obtain ⟨a2, rfl, rfl, rfl, w2⟩ := open_int Try.underlying3 (hval 2 3 v2 rfl rfl) h2
  clear hA0 hval0
  simp only [List.append_nil] at hW'
  refine (walk a0 a1 a2 w0 w1 w2 W).mono fun e W' ⟨he, hg⟩ => ?_
  subst he
  exact ⟨_, rfl, _, _, _, [], [], [], hW', (trodAll_cons_mk (shut_bool Try.underlying4 _) trodAll_mk0), (trodAll_cons_mk (shut_int Try.underlying3 w0) (trodAll_cons_mk (shut_int Try.underlying3 w1) (trodAll_cons_mk (shut_int Try.underlying3 w2) trodAll_mk0))), rfl, hg.frame _, fun h => by cases h⟩

theorem over : Rows.fixGrowsRow.holds Try.pinned (OpenSpec.ofChange Rows.fixGrowsSpec) :=
  OpenClaim.holds_of_wide 4 Try.f4 rfl rfl rfl rfl rfl rfl rfl ⟨rfl, rfl, rfl, rfl, rfl⟩ rfl rfl rfl rfl rfl (by kernel_rfl) Try.func4 (by kernel_rfl)
    (of_decide_eq_true (by kernel_rfl)) (by unfold Func.isWrapper; first | (rw [if_pos (by decide +kernel)]; kernel_rfl) | (rw [if_neg (by decide +kernel)]; exact ⟨rfl, rfl⟩))
    (fun os started H enc _ => lifted os started H enc)

/-- ████ THE STATEMENT ████ -/
theorem proved : Rows.FixGrowsSaid :=
  over
#print axioms proved
end Go.Proofs.Yteepkghjphmegac.fixGrows
