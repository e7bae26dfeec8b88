/- FixSigns: the walk by contracts, then the row. -/
import Derived.Test.YteepkghjphmegacRows
import Derived.Test.YteepkghjphmegacSg
namespace Go.Proofs.Yteepkghjphmegac.fixSigns
open Go.ChangeShapes Go.WideShapes Go.ChangeAt Go.RowKit
set_option linter.unusedVariables false      -- a walk need not use every 'w<i>' (that an integer argument fits its kind)
set_option linter.unusedSimpArgs false

theorem own : ownKnob Try.prog.godebug = none := by kernel_rfl

/-! ### STEP 1: THE WALK: the Go text returns true. 'Grown w w'': the world has at most new blocks (Derived/RowKit3.lean). Part the cases AHEAD of 'go_enter' where a test parts the walk; take each callee by a contract of your own. -/
set_option maxHeartbeats 8000000 in
theorem walk (a0 : Int) (a1 : Int) (w0 : (Lit.int .i64 a0).wf = true) (w1 : (Lit.int .i64 a1).wf = true) (w : World) :
    Calls Try.prog 3 #[.int .i64 a0, .int .i64 a1] w fun e w' => e = .returned (.bool true) ∧ Below w.heap.size w w' := by
  obtain ⟨i1, i2⟩ := i64_bounds w0
  obtain ⟨i3, i4⟩ := i64_bounds w1
  have e1 := add_comm_flo a0 a1 i1 i2 i3 i4
  have e2 := mul_comm_flo a0 a1 i1 i2 i3 i4
  have e3 := sub_flip_flo a0 a1 i1 i2 i3 i4
  have e4 := mul_one_flo a0 i1 i2
  have e5 := div_one_flo a0 i1 i2
  have e6 := mul_two_flo a0 i1 i2
  have e8 := sub_zero_flo a0 i1 i2
  have e11 := mul_flip_flo a0 a1 i1 i2 i3 i4
  have e12 := div_flip_flo a0 a1 i1 i2 i3 i4
  have H7 := hid_mk (add_mz_flo a0 i1 i2)
  have X0 := hid_mk (xor_sign a0 i1 i2)
  have X1 := hid_mk (xor_sign a1 i3 i4)
  have X2 := hid_mk (xor_sign (floR .mul a0 a1) (floR_range _ _ _).1 (floR_range _ _ _).2)
  have X3 := hid_mk (xor_sign (floR .quo a0 a1) (floR_range _ _ _).1 (floR_range _ _ _).2)
  have key : ∀ (n1 n2 f z : Bool), pNone a0 = n1 → pNone a1 = n2 → decide (rg a0 < 9218868437227405312) = f → (bits .and .i64 a0 9223372036854775807 == 0) = z →
      (f = true → floR .sub a0 a0 = 0) → (f = true → z = false → floR .quo a0 a0 = 4607182418800017408) →
      Calls Try.prog 3 #[.int .i64 a0, .int .i64 a1] w fun e w' => e = .returned (.bool true) ∧ Below w.heap.size w w' := by
    intro n1 n2 f z k1 k2 k3 k4 p1 p2
    have h0 := Below.refl w.heap.size w
    have F := hid_mk (fun b w => finite_any b w)
    have P1 := hid_mk p1
    have P2 := hid_mk p2
    clear p1 p2 w0 w1 i1 i2 i3 i4
    cases f <;> cases z <;> cases n1 <;> cases n2
    all_goals
      first | (have q1 := P1.out rfl) | skip
      first | (have q2 := P2.out rfl rfl) | skip
      clear P1 P2
      go_enter Try.func3, Try.ntmps3
      go_wp2_with (first
        | (go_at_call 14; refine (calls_rel (alive_any _) (by assumption)).mono ?_; rintro e w1 ⟨rfl, hg⟩)
        | (go_at_call 13; refine calls_same (number_any _ _) ?_)
        | (go_at_call 12; refine calls_same (finite_any _ _) ?_)
        | (go_at_call 10; refine calls_same (told_any _ _) ?_; first | rw [X2.out] | rw [X3.out] | skip)
        | (go_at_call 7; refine (calls_rel (fixFloAdd_any _ _ _) (by assumption)).mono ?_; rintro e w1 ⟨rfl, hg⟩; first | rw [X1.out] | rw [H7.out] | skip)
        | (go_at_call 9; refine (calls_rel (fixFloSub_any _ _ _) (by assumption)).mono ?_; rintro e w1 ⟨rfl, hg⟩)
        | (go_at_call 8; refine (calls_rel (fixFloMul_any _ _ _) (by assumption)).mono ?_; rintro e w1 ⟨rfl, hg⟩; first | rw [X0.out] | skip)
        | (go_at_call 11; refine (calls_rel (fixFloDiv_any _ _ _) (by assumption)).mono ?_; rintro e w1 ⟨rfl, hg⟩; first | rw [X1.out] | skip))
      all_goals go_ret
      all_goals exact ⟨by first | rfl | simp, by assumption⟩
  refine key _ _ _ _ rfl rfl rfl rfl ?_ ?_
  · intro h; exact sub_self_flo a0 i1 i2 (of_decide_eq_true h)
  · intro h hz
    refine div_self_flo a0 i1 i2 (of_decide_eq_true h) ?_
    rw [and_mask] at hz
    simpa using hz

/-! ### THE ROW's STEP: WRITTEN OUT: LEAVE IT -/
set_option maxRecDepth 100000 in
theorem lifted (os : Os) (started : os.Started) (H : Type) (enc : TypeId × Value → H) :
    ReturnsInHanded {} Try.checked os 3 .any (Rows.fixSignsSpec.pre6 enc Try.prog Try.f3 Rows.fixSignsRow.domain false) (Rows.fixSignsSpec.post enc Try.prog Try.f3 false true false false) := by
  refine returnsInHanded_of_change (C := Try.checked) own started (by kernel_rfl) Try.func3
    (ChangeSpec.witness6 (enc := enc) (C := Try.checked) false ⟨#[], #[.int .i64 0, .int .i64 0], []⟩ 8 (by kernel_rfl) (by kernel_rfl) (by kernel_rfl) (by kernel_rfl)) ?_
  intro W base args ds gs before hval0 hW hcnd _
  have hval : ∀ (j : Nat) t v, Try.f3.params[j]? = some t → args[j]? = some v → Value.okWide Try.prog W .any base t v := hval0
  have hW' := hW
  obtain ⟨p, q, hA0, hV, rfl, hfz, hnd⟩ := hW
  have hA : DataW.TrodAll enc Try.prog W 0 (fun _ => true) true Try.f3.params.toList args.toList ds p := hA0
  rw [Try.params3] at hA hval
  obtain ⟨v0, vs0, d0, ds0, p0, q0, hargs, rfl, rfl, h0, r0⟩ := trodAll_cons hA
  obtain ⟨v1, vs1, d1, ds1, p1, q1, rfl, rfl, rfl, h1, r1⟩ := trodAll_cons r0
  obtain ⟨rfl, rfl, rfl⟩ := trodAll_nil r1
  obtain rfl : args = #[v0, v1] := by cases args; simp_all
  obtain ⟨rfl, rfl⟩ := trodVars_none hV
  obtain ⟨a0, rfl, rfl, rfl, w0⟩ := open_int Try.underlying3 (hval 0 3 v0 rfl rfl) h0
  obtain ⟨a1, rfl, rfl, rfl, w1⟩ := open_int Try.underlying3 (hval 1 3 v1 rfl rfl) h1
  clear hA0 hval0
  simp only [List.append_nil] at hW'
  refine (walk a0 a1 w0 w1 W).mono fun e W' ⟨he, hg⟩ => ?_
  subst he
  exact ⟨_, rfl, _, _, _, [], [], [], hW', (trodAll_cons_mk (shut_bool Try.underlying4 _) trodAll_mk0), (trodAll_cons_mk (shut_int Try.underlying3 w0) (trodAll_cons_mk (shut_int Try.underlying3 w1) trodAll_mk0)), rfl, hg.frame _, fun h => by cases h⟩

theorem over : Rows.fixSignsRow.holds Try.pinned (OpenSpec.ofChange Rows.fixSignsSpec) :=
  OpenClaim.holds_of_wide 3 Try.f3 rfl rfl rfl rfl rfl rfl rfl ⟨rfl, rfl, rfl, rfl, rfl⟩ rfl rfl rfl rfl rfl (by kernel_rfl) Try.func3 (by kernel_rfl)
    (of_decide_eq_true (by kernel_rfl)) (by unfold Func.isWrapper; first | (rw [if_pos (by decide +kernel)]; kernel_rfl) | (rw [if_neg (by decide +kernel)]; exact ⟨rfl, rfl⟩))
    (fun os started H enc _ => lifted os started H enc)

/-- ████ THE STATEMENT ████ -/
theorem proved : Rows.FixSignsSaid :=
  over
#print axioms proved
end Go.Proofs.Yteepkghjphmegac.fixSigns
