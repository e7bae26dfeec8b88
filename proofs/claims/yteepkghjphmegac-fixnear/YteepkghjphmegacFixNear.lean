/- FixNear: the walk by contracts, then the row. -/
import Derived.Test.YteepkghjphmegacRows
import Derived.Test.YteepkghjphmegacM9
namespace Go.Proofs.Yteepkghjphmegac.fixNear
open Go.ChangeShapes Go.WideShapes Go.ChangeAt Go.RowKit
set_option linter.unusedVariables false      -- a walk need not use every 'w<i>' (that an integer argument fits its kind)
set_option linter.unusedSimpArgs false

theorem own : ownKnob Try.prog.godebug = none := by kernel_rfl

/-! ### STEP 1: THE WALK: the Go text returns true. 'Grown w w'': the world has at most new blocks (Derived/RowKit3.lean). Part the cases AHEAD of 'go_enter' where a test parts the walk; take each callee by a contract of your own. -/
set_option maxHeartbeats 8000000 in
theorem walk (a0 : Int) (a1 : Int) (w0 : (Lit.int .i64 a0).wf = true) (w1 : (Lit.int .i64 a1).wf = true) (w : World) :
    Calls Try.prog 5 #[.int .i64 a0, .int .i64 a1] w fun e w' => e = .returned (.bool true) ∧ Below w.heap.size w w' := by
  obtain ⟨c1, c2⟩ := fwrap_bounds a0
  have hcc : fwrap (fwrap a0) = fwrap a0 := by unfold fwrap; omega
  have hdd : fwrap (fwrap a1) = fwrap a1 := by unfold fwrap; omega
  obtain ⟨N1, N2, N3⟩ := near_facts (fwrap a0) c1 c2
  have N0 := toFlo_less (fwrap a0) (fwrap a1)
  have hfr := toFlo_rng (fwrap a0)
  have key : ∀ (c d f g n m : Int) (ok t1 l e t2 t3 : Bool), (∀ w, Calls Try.prog 16 #[.int .i64 a0] w fun e w' => e = .returned (.int .i64 c) ∧ w' = w) → (∀ w, Calls Try.prog 16 #[.int .i64 a1] w fun e w' => e = .returned (.int .i64 d) ∧ w' = w) →
      (∀ w, Calls Try.prog 17 #[.int .i64 c] w fun e w' => e = .returned (.int .i64 f) ∧ w' = w) → (∀ w, Calls Try.prog 17 #[.int .i64 d] w fun e w' => e = .returned (.int .i64 g) ∧ w' = w) → (∀ w, Calls Try.prog 17 #[.int .i64 n] w fun e w' => e = .returned (.int .i64 m) ∧ w' = w) →
      (∀ w, Calls Try.prog 18 #[.int .i64 f] w fun e w' => e = .returned (.tuple #[.int .i64 n, .bool ok]) ∧ Below w.heap.size w w') →
      decide (c < d) = t1 → lessB f g = l → (f == g) = e → decide (-9007199254740992 ≤ c) = t2 → decide (c ≤ 9007199254740992) = t3 → (t1 = true → (l == e) = false) → (t2 = true → t3 = true → ok = true ∧ (n == c) = true) →
      ((t2 && t3) = false → ok = false → decide (1152921504606846911 < c) = true) →
      ((t2 && t3) = false → ok = true → decide (-64 ≤ wrap64 (n - c)) = true ∧ decide (wrap64 (n - c) ≤ 64) = true ∧ (m == f) = true) →
      Calls Try.prog 5 #[.int .i64 a0, .int .i64 a1] w fun e w' => e = .returned (.bool true) ∧ Below w.heap.size w w' := by
    clear N0 N1 N2 N3 hcc hdd hfr c1 c2
    intro c d f g n m ok t1 l e t2 t3 ca cb cf cg cn cx k1 k2 k3 k4 k5 p1 p2 p3 p4
    have h0 := Below.refl w.heap.size w
    have CA := hid_mk ca
    have CB := hid_mk cb
    have CF := hid_mk cf
    have CG := hid_mk cg
    have CN := hid_mk cn
    have CX := hid_mk cx
    have P1 := hid_mk p1
    have P2 := hid_mk p2
    have P3 := hid_mk p3
    have P4 := hid_mk p4
    clear ca cb cf cg cn cx p1 p2 p3 p4 w0 w1
    cases t1
    rotate_left
    cases l <;> cases e
    all_goals first | (exfalso; exact absurd (P1.out rfl) (by decide)) | skip
    all_goals clear P1
    all_goals cases t2
    all_goals first | (have P3' : Hid (ok = false → decide (1152921504606846911 < c) = true) := P3.out rfl; have P4' : Hid (ok = true → decide (-64 ≤ wrap64 (n - c)) = true ∧ decide (wrap64 (n - c) ≤ 64) = true ∧ (m == f) = true) := P4.out rfl; clear P2 P3 P4) | cases t3
    all_goals cases ok
    all_goals first | (exfalso; exact absurd (P2.out rfl rfl).1 (by decide)) | skip
    all_goals
      first
        | (have q1 := P3'.out rfl; clear P3' P4')
        | (obtain ⟨q1, q2, q3⟩ := P4'.out rfl; clear P3' P4')
        | (have q1 := (P2.out rfl rfl).2; clear P2 P3 P4)
        | (have q1 := P3.out rfl rfl; clear P2 P3 P4)
        | (obtain ⟨q1, q2, q3⟩ := P4.out rfl rfl; clear P2 P3 P4)
      go_enter Try.func5, Try.ntmps5
      go_wp2_with (first
        | (go_at_call 14; refine (calls_rel (alive_any _) (by assumption)).mono ?_; rintro e w1 ⟨rfl, hg⟩)
        | (go_at_call 16; first | refine calls_same (CA.out _) ?_ | refine calls_same (CB.out _) ?_)
        | (go_at_call 17; first | refine calls_same (CF.out _) ?_ | refine calls_same (CG.out _) ?_ | refine calls_same (CN.out _) ?_)
        | (go_at_call 15; refine calls_same (fixFloLess_any _ _ _) ?_)
        | (go_at_call 18; refine (calls_rel (CX.out _) (by assumption)).mono ?_; rintro e w1 ⟨rfl, hg⟩))
      all_goals go_ret
      all_goals exact ⟨by first | rfl | (simp; done) | assumption, by assumption⟩
  refine key (fwrap a0) (fwrap a1) (toFloV (fwrap a0)) (toFloV (fwrap a1)) (nV (toFloV (fwrap a0))) (toFloV (fwrap (nV (toFloV (fwrap a0))))) (okV (toFloV (fwrap a0))) _ _ _ _ _ (fixWrap_any _) (fixWrap_any _) ?_ ?_ (fixToFlo_any _) (fun w => fixToFix_any _ w hfr.1 hfr.2) rfl rfl rfl rfl rfl ?_ ?_ ?_ ?_
  · intro w; have := fixToFlo_any (fwrap a0) w; rw [hcc] at this; exact this
  · intro w; have := fixToFlo_any (fwrap a1) w; rw [hdd] at this; exact this
  · intro q; exact N0 (of_decide_eq_true q)
  · intro q1 q2
    obtain ⟨r1, r2⟩ := N1 (of_decide_eq_true q1) (of_decide_eq_true q2)
    exact ⟨r1, by rw [r2]; simp⟩
  · intro _ q; exact decide_eq_true (N2 q)
  · intro _ q
    obtain ⟨r1, r2, r3, r4, r5⟩ := N3 q
    have hw : wrap64 (nV (toFloV (fwrap a0)) - fwrap a0) = nV (toFloV (fwrap a0)) - fwrap a0 := by unfold wrap64; omega
    have hn : fwrap (nV (toFloV (fwrap a0))) = nV (toFloV (fwrap a0)) := by
      generalize nV (toFloV (fwrap a0)) = z at r4 r5 ⊢
      unfold fwrap; omega
    rw [hw, hn, r3]
    exact ⟨decide_eq_true r1, decide_eq_true r2, by simp⟩

/-! ### THE ROW's STEP: WRITTEN OUT: LEAVE IT -/
set_option maxRecDepth 100000 in
theorem lifted (os : Os) (started : os.Started) (H : Type) (enc : TypeId × Value → H) :
    ReturnsInHanded {} Try.checked os 5 .any (Rows.fixNearSpec.pre6 enc Try.prog Try.f5 Rows.fixNearRow.domain false) (Rows.fixNearSpec.post enc Try.prog Try.f5 false true false false) := by
  refine returnsInHanded_of_change (C := Try.checked) own started (by kernel_rfl) Try.func5
    (ChangeSpec.witness6 (enc := enc) (C := Try.checked) false ⟨#[], #[.int .i64 0, .int .i64 0], []⟩ 8 (by kernel_rfl) (by kernel_rfl) (by kernel_rfl) (by kernel_rfl)) ?_
  intro W base args ds gs before hval0 hW hcnd _
  have hval : ∀ (j : Nat) t v, Try.f5.params[j]? = some t → args[j]? = some v → Value.okWide Try.prog W .any base t v := hval0
  have hW' := hW
  obtain ⟨p, q, hA0, hV, rfl, hfz, hnd⟩ := hW
  have hA : DataW.TrodAll enc Try.prog W 0 (fun _ => true) true Try.f5.params.toList args.toList ds p := hA0
  rw [Try.params5] at hA hval
  obtain ⟨v0, vs0, d0, ds0, p0, q0, hargs, rfl, rfl, h0, r0⟩ := trodAll_cons hA
  obtain ⟨v1, vs1, d1, ds1, p1, q1, rfl, rfl, rfl, h1, r1⟩ := trodAll_cons r0
  obtain ⟨rfl, rfl, rfl⟩ := trodAll_nil r1
  obtain rfl : args = #[v0, v1] := by cases args; simp_all
  obtain ⟨rfl, rfl⟩ := trodVars_none hV
  obtain ⟨a0, rfl, rfl, rfl, w0⟩ := open_int Try.underlying3 (hval 0 3 v0 rfl rfl) h0
  obtain ⟨a1, rfl, rfl, rfl, w1⟩ := open_int Try.underlying3 (hval 1 3 v1 rfl rfl) h1
  clear hA0 hval0
  simp only [List.append_nil] at hW'
  refine (walk a0 a1 w0 w1 W).mono fun e W' ⟨he, hg⟩ => ?_
  subst he
  exact ⟨_, rfl, _, _, _, [], [], [], hW', (trodAll_cons_mk (shut_bool Try.underlying4 _) trodAll_mk0), (trodAll_cons_mk (shut_int Try.underlying3 w0) (trodAll_cons_mk (shut_int Try.underlying3 w1) trodAll_mk0)), rfl, hg.frame _, fun h => by cases h⟩

theorem over : Rows.fixNearRow.holds Try.pinned (OpenSpec.ofChange Rows.fixNearSpec) :=
  OpenClaim.holds_of_wide 5 Try.f5 rfl rfl rfl rfl rfl rfl rfl ⟨rfl, rfl, rfl, rfl, rfl⟩ rfl rfl rfl rfl rfl (by kernel_rfl) Try.func5 (by kernel_rfl)
    (of_decide_eq_true (by kernel_rfl)) (by unfold Func.isWrapper; first | (rw [if_pos (by decide +kernel)]; kernel_rfl) | (rw [if_neg (by decide +kernel)]; exact ⟨rfl, rfl⟩))
    (fun os started H enc _ => lifted os started H enc)

/-- ████ THE STATEMENT ████ -/
theorem proved : Rows.FixNearSaid :=
  over
#print axioms proved
end Go.Proofs.Yteepkghjphmegac.fixNear
