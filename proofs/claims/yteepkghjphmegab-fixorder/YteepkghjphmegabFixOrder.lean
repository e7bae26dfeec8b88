/- FixOrder: the walk by contracts, then the row. -/
import Derived.Test.YteepkghjphmegabRows
import Derived.Test.YteepkghjphmegabNu
namespace Go.Proofs.Yteepkghjphmegab.fixOrder
open Go.ChangeShapes Go.WideShapes Go.ChangeAt Go.RowKit
set_option linter.unusedVariables false      -- a walk need not use every 'w<i>' (that an integer argument fits its kind)
set_option linter.unusedSimpArgs false

theorem own : ownKnob Try.prog.godebug = none := by kernel_rfl

/-! ### STEP 1: THE WALK: the Go text returns true. 'Grown w w'': the world has at most new blocks (Derived/RowKit3.lean). Part the cases AHEAD of 'go_enter' where a test parts the walk; take each callee by a contract of your own. -/
set_option maxHeartbeats 4000000 in
theorem walk (a0 : Int) (a1 : Int) (a2 : Int) (w0 : (Lit.int .i64 a0).wf = true) (w1 : (Lit.int .i64 a1).wf = true) (w2 : (Lit.int .i64 a2).wf = true) (w : World) :
    Calls Try.prog 8 #[.int .i64 a0, .int .i64 a1, .int .i64 a2] w fun e w' => e = .returned (.bool true) ∧ Below w.heap.size w w' := by
  obtain ⟨i1, i2⟩ := i64_bounds w0
  obtain ⟨i3, i4⟩ := i64_bounds w1
  obtain ⟨i5, i6⟩ := i64_bounds w2
  have l1 := less_link a0 a1 i1 i2 i3 i4
  have l2 := less_link a1 a0 i3 i4 i1 i2
  have l3 : lessB a0 a0 = false := by rw [less_link a0 a0 i1 i2 i1 i2]; unfold lessV; simp
  have l4 := less_link a1 a2 i3 i4 i5 i6
  have l5 := less_link a0 a2 i1 i2 i5 i6
  have hz : (bits .and .i64 (bits .or .i64 a0 a1) 9223372036854775807 == 0) = (rg a0 == 0 && rg a1 == 0) := by
    rw [and_mask, Bool.eq_iff_iff]; simp [or_zero]
  have ho : (a0 = a1 ∨ (rg a0 = 0 ∧ rg a1 = 0)) ↔ ordV a0 = ordV a1 := by
    unfold ordV pNeg rg
    by_cases c1 : a0 < 0 <;> by_cases c2 : a1 < 0 <;> simp [c1, c2] <;> omega
  unfold lessV at l1 l2 l4 l5
  have key : ∀ (x y z u n1 n2 e0 z0 : Bool), lessB a0 a1 = x → lessB a1 a0 = y → lessB a1 a2 = z → lessB a0 a2 = u → pNone a0 = n1 → pNone a1 = n2 → (a0 == a1) = e0 → (bits .and .i64 (bits .or .i64 a0 a1) 9223372036854775807 == 0) = z0 →
      (x && y) = false → ((n1 || n2) = true → x = false ∧ y = false) → ((n1 || n2) = false → ((x || y) == (e0 || z0)) = false ∧ (x = true → z = true → u = true)) →
      Calls Try.prog 8 #[.int .i64 a0, .int .i64 a1, .int .i64 a2] w fun e w' => e = .returned (.bool true) ∧ Below w.heap.size w w' := by
    clear l1 l2 l4 l5 hz ho
    intro x y z u n1 n2 e0 z0 k1 k2 k3 k4 k5 k6 k7 k8 p1 p2 p3
    have h0 := Below.refl w.heap.size w
    have P1 := hid_mk p1
    have P2 := hid_mk p2
    have P3 := hid_mk p3
    clear p1 p2 p3
    cases x <;> cases y <;> cases n1 <;> cases n2 <;> cases e0 <;> cases z0 <;> cases z <;> cases u
    all_goals first
      | (exfalso; have q := P1.out; revert q; decide)
      | (exfalso; have q := P2.out; revert q; decide)
      | (exfalso; have q := P3.out; revert q; decide)
      | (clear P1 P2 P3
         go_enter Try.func8, Try.ntmps8
         go_wp2_with (first
           | (go_at_call 9; refine (calls_rel (alive_any _) (by assumption)).mono ?_; rintro e w1 ⟨rfl, hg⟩)
           | (go_at_call 21; refine calls_same (fixFloLess_any _ _ _) ?_)
           | (go_at_call 22; refine calls_same (number_any _ _) ?_))
         all_goals go_ret
         all_goals exact ⟨by first | rfl | simp, by assumption⟩)
  refine key _ _ _ _ _ _ _ _ rfl rfl rfl rfl rfl rfl rfl rfl ?_ ?_ ?_
  · rw [l1, l2]; rw [Bool.eq_false_iff]; simp; omega
  · rw [l1, l2]; intro h; simp at h; rcases h with h | h <;> simp [h]
  · rw [l1, l2, l4, l5, hz]
    intro h
    simp at h
    simp only [h.1, h.2, Bool.not_false, Bool.true_and]
    constructor
    · rw [Bool.eq_false_iff]
      intro e
      by_cases c : ordV a0 = ordV a1
      · rcases ho.2 c with c1 | ⟨c1, c2⟩
        · simp [c1] at e
        · simp [c1, c2, c] at e
      · have hn : ¬ a0 = a1 := fun q => c (ho.1 (.inl q))
        have hn2 : ¬ (rg a0 = 0 ∧ rg a1 = 0) := fun q => c (ho.1 (.inr q))
        have e1 : (a0 == a1) = false := by simpa using hn
        have e2 : (rg a0 == 0 && rg a1 == 0) = false := by rw [Bool.eq_false_iff]; simpa using hn2
        rw [e1, e2] at e
        simp at e; omega
    · intro q1 q2
      simp at q1 q2 ⊢
      obtain ⟨q2, q3⟩ := q2
      exact ⟨q2, by omega⟩

/-! ### THE ROW's STEP: WRITTEN OUT: LEAVE IT -/
set_option maxRecDepth 100000 in
theorem lifted (os : Os) (started : os.Started) (H : Type) (enc : TypeId × Value → H) :
    ReturnsInHanded {} Try.checked os 8 .any (Rows.fixOrderSpec.pre6 enc Try.prog Try.f8 Rows.fixOrderRow.domain false) (Rows.fixOrderSpec.post enc Try.prog Try.f8 false true false false) := by
  refine returnsInHanded_of_change (C := Try.checked) own started (by kernel_rfl) Try.func8
    (ChangeSpec.witness6 (enc := enc) (C := Try.checked) false ⟨#[], #[.int .i64 0, .int .i64 0, .int .i64 0], []⟩ 8 (by kernel_rfl) (by kernel_rfl) (by kernel_rfl) (by kernel_rfl)) ?_
  intro W base args ds gs before hval0 hW hcnd _
  have hval : ∀ (j : Nat) t v, Try.f8.params[j]? = some t → args[j]? = some v → Value.okWide Try.prog W .any base t v := hval0
  have hW' := hW
  obtain ⟨p, q, hA0, hV, rfl, hfz, hnd⟩ := hW
  have hA : DataW.TrodAll enc Try.prog W 0 (fun _ => true) true Try.f8.params.toList args.toList ds p := hA0
  rw [Try.params8] at hA hval
  obtain ⟨v0, vs0, d0, ds0, p0, q0, hargs, rfl, rfl, h0, r0⟩ := trodAll_cons hA
  obtain ⟨v1, vs1, d1, ds1, p1, q1, rfl, rfl, rfl, h1, r1⟩ := trodAll_cons r0
  obtain ⟨v2, vs2, d2, ds2, p2, q2, rfl, rfl, rfl, h2, r2⟩ := trodAll_cons r1
  obtain ⟨rfl, rfl, rfl⟩ := trodAll_nil r2
  obtain rfl : args = #[v0, v1, v2] := by cases args; simp_all
  obtain ⟨rfl, rfl⟩ := trodVars_none hV
  obtain ⟨a0, rfl, rfl, rfl, w0⟩ := open_int Try.underlying3 (hval 0 3 v0 rfl rfl) h0
  obtain ⟨a1, rfl, rfl, rfl, w1⟩ := open_int Try.underlying3 (hval 1 3 v1 rfl rfl) h1
  obtain ⟨a2, rfl, rfl, rfl, w2⟩ := open_int Try.underlying3 (hval 2 3 v2 rfl rfl) h2
  clear hA0 hval0
  simp only [List.append_nil] at hW'
  refine (walk a0 a1 a2 w0 w1 w2 W).mono fun e W' ⟨he, hg⟩ => ?_
  subst he
  exact ⟨_, rfl, _, _, _, [], [], [], hW', (trodAll_cons_mk (shut_bool Try.underlying4 _) trodAll_mk0), (trodAll_cons_mk (shut_int Try.underlying3 w0) (trodAll_cons_mk (shut_int Try.underlying3 w1) (trodAll_cons_mk (shut_int Try.underlying3 w2) trodAll_mk0))), rfl, hg.frame _, fun h => by cases h⟩

theorem over : Rows.fixOrderRow.holds Try.pinned (OpenSpec.ofChange Rows.fixOrderSpec) :=
  OpenClaim.holds_of_wide 8 Try.f8 rfl rfl rfl rfl rfl rfl rfl ⟨rfl, rfl, rfl, rfl, rfl⟩ rfl rfl rfl rfl rfl (by kernel_rfl) Try.func8 (by kernel_rfl)
    (of_decide_eq_true (by kernel_rfl)) (by unfold Func.isWrapper; first | (rw [if_pos (by decide +kernel)]; kernel_rfl) | (rw [if_neg (by decide +kernel)]; exact ⟨rfl, rfl⟩))
    (fun os started H enc _ => lifted os started H enc)

/-- ████ THE STATEMENT ████ -/
theorem proved : Rows.FixOrderSaid :=
  over
#print axioms proved
end Go.Proofs.Yteepkghjphmegab.fixOrder
