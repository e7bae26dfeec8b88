/- FixWrapped: the walk by contracts, then the row. -/
import Derived.Test.YteepkghjphmegabRows
import Derived.Test.YteepkghjphmegabZi
namespace Go.Proofs.Yteepkghjphmegab.fixWrapped
open Go.ChangeShapes Go.WideShapes Go.ChangeAt Go.RowKit
set_option linter.unusedVariables false      -- a walk need not use every 'w<i>' (that an integer argument fits its kind)

theorem own : ownKnob Try.prog.godebug = none := by kernel_rfl

/-! ### STEP 1: THE WALK: the Go text returns true. 'Grown w w'': the world has at most new blocks (Derived/RowKit3.lean). Part the cases AHEAD of 'go_enter' where a test parts the walk; take each callee by a contract of your own. -/
theorem walk (a0 : Int) (a1 : Int) (w0 : (Lit.int .i64 a0).wf = true) (w1 : (Lit.int .i64 a1).wf = true) (w : World) :
    Calls Try.prog 6 #[.int .i64 a0, .int .i64 a1] w fun e w' => e = .returned (.bool true) ∧ Below w.heap.size w w' := by
  have h0 := Below.refl w.heap.size w
  obtain ⟨b1, b2⟩ := fwrap_bounds a0
  have e1 : fwrap (wrap64 (a0 + wrap64 (a1 * 2305843009213693952))) = fwrap a0 := by unfold fwrap wrap64; omega
  have e2 : (wrap64 (a0 - fwrap a0)).tmod 2305843009213693952 = 0 := by
    have : wrap64 (a0 - fwrap a0) = 2305843009213693952 * (wrap64 (a0 - fwrap a0) / 2305843009213693952) := by unfold fwrap wrap64; omega
    rw [this]; exact Int.mul_tmod_right _ _
  have e5 : (a0 - fwrap a0).tmod 2305843009213693952 = 0 := by
    have : a0 - fwrap a0 = 2305843009213693952 * ((a0 - fwrap a0) / 2305843009213693952) := by unfold fwrap; omega
    rw [this]; exact Int.mul_tmod_right _ _
  have e3 : (fwrap a0 == a0) = fitsB a0 := by
    rw [Bool.eq_iff_iff]; unfold fitsB fwrap; simp; omega
  clear w0 w1
  by_cases hf : -1152921504606846976 ≤ a0 <;> by_cases hg : a0 ≤ 1152921504606846975
  all_goals
    first | (have e4 : fitsB a0 = true := decide_eq_true ⟨hf, hg⟩) | (have e4 : fitsB a0 = false := decide_eq_false (by omega))
    go_enter Try.func6, Try.ntmps6
    go_wp2_with (first
      | (go_at_call 17; refine (fixWrap_any _ _).mono ?_; rintro e w' ⟨rfl, rfl⟩)
      | (go_at_call 18; refine (fixFits_any _ _).mono ?_; rintro e w' ⟨rfl, rfl⟩)
      | (go_at_call 9; refine (calls_rel (alive_any _) (by assumption)).mono ?_; rintro e w1 ⟨rfl, hg⟩))
    all_goals go_ret
    all_goals exact ⟨by first | rfl | (simp; done) | (simp; omega), by assumption⟩

/-! ### THE ROW's STEP: WRITTEN OUT: LEAVE IT -/
set_option maxRecDepth 100000 in
theorem lifted (os : Os) (started : os.Started) (H : Type) (enc : TypeId × Value → H) :
    ReturnsInHanded {} Try.checked os 6 .any (Rows.fixWrappedSpec.pre6 enc Try.prog Try.f6 Rows.fixWrappedRow.domain false) (Rows.fixWrappedSpec.post enc Try.prog Try.f6 false true false false) := by
  refine returnsInHanded_of_change (C := Try.checked) own started (by kernel_rfl) Try.func6
    (ChangeSpec.witness6 (enc := enc) (C := Try.checked) false ⟨#[], #[.int .i64 0, .int .i64 0], []⟩ 8 (by kernel_rfl) (by kernel_rfl) (by kernel_rfl) (by kernel_rfl)) ?_
  intro W base args ds gs before hval0 hW hcnd _
  have hval : ∀ (j : Nat) t v, Try.f6.params[j]? = some t → args[j]? = some v → Value.okWide Try.prog W .any base t v := hval0
  have hW' := hW
  obtain ⟨p, q, hA0, hV, rfl, hfz, hnd⟩ := hW
  have hA : DataW.TrodAll enc Try.prog W 0 (fun _ => true) true Try.f6.params.toList args.toList ds p := hA0
  rw [Try.params6] at hA hval
  obtain ⟨v0, vs0, d0, ds0, p0, q0, hargs, rfl, rfl, h0, r0⟩ := trodAll_cons hA
  obtain ⟨v1, vs1, d1, ds1, p1, q1, rfl, rfl, rfl, h1, r1⟩ := trodAll_cons r0
  obtain ⟨rfl, rfl, rfl⟩ := trodAll_nil r1
  obtain rfl : args = #[v0, v1] := by cases args; simp_all
  obtain ⟨rfl, rfl⟩ := trodVars_none hV
  obtain ⟨a0, rfl, rfl, rfl, w0⟩ := open_int Try.underlying3 (hval 0 3 v0 rfl rfl) h0
  obtain ⟨a1, rfl, rfl, rfl, w1⟩ := open_int Try.underlying3 (hval 1 3 v1 rfl rfl) h1
  clear hA0 hval0
  simp only [List.append_nil] at hW'
  refine (walk a0 a1 w0 w1 W).mono fun e W' ⟨he, hg⟩ => ?_
  subst he
  exact ⟨_, rfl, _, _, _, [], [], [], hW', (trodAll_cons_mk (shut_bool Try.underlying4 _) trodAll_mk0), (trodAll_cons_mk (shut_int Try.underlying3 w0) (trodAll_cons_mk (shut_int Try.underlying3 w1) trodAll_mk0)), rfl, hg.frame _, fun h => by cases h⟩

theorem over : Rows.fixWrappedRow.holds Try.pinned (OpenSpec.ofChange Rows.fixWrappedSpec) :=
  OpenClaim.holds_of_wide 6 Try.f6 rfl rfl rfl rfl rfl rfl rfl ⟨rfl, rfl, rfl, rfl, rfl⟩ rfl rfl rfl rfl rfl (by kernel_rfl) Try.func6 (by kernel_rfl)
    (of_decide_eq_true (by kernel_rfl)) (by unfold Func.isWrapper; first | (rw [if_pos (by decide +kernel)]; kernel_rfl) | (rw [if_neg (by decide +kernel)]; exact ⟨rfl, rfl⟩))
    (fun os started H enc _ => lifted os started H enc)

/-- ████ THE STATEMENT ████ -/
theorem proved : Rows.FixWrappedSaid :=
  over
#print axioms proved
end Go.Proofs.Yteepkghjphmegab.fixWrapped
