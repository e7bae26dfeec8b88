/- FixCuts: the walk by contracts, then the row. -/
import Derived.Test.YteepkghjphmegacRows
import Derived.Test.YteepkghjphmegacMc
namespace Go.Proofs.Yteepkghjphmegac.fixCuts
open Go.ChangeShapes Go.WideShapes Go.ChangeAt Go.RowKit
set_option linter.unusedVariables false      -- a walk need not use every 'w<i>' (that an integer argument fits its kind)
set_option linter.unusedSimpArgs false

theorem own : ownKnob Try.prog.godebug = none := by kernel_rfl

/-! ### STEP 1: THE WALK: the Go text returns true. 'Grown w w'': the world has at most new blocks (Derived/RowKit3.lean). Part the cases AHEAD of 'go_enter' where a test parts the walk; take each callee by a contract of your own. -/
set_option maxHeartbeats 8000000 in
theorem walk (a0 : Int) (w0 : (Lit.int .i64 a0).wf = true) (w : World) :
    Calls Try.prog 6 #[.int .i64 a0] w fun e w' => e = .returned (.bool true) ∧ Below w.heap.size w w' := by
  obtain ⟨i1, i2⟩ := i64_bounds w0
  obtain ⟨N1, N2⟩ := cut_facts a0 i1 i2
  have key : ∀ (n f x y : Int) (ok nn l1 l2 e z : Bool), (∀ w, Calls Try.prog 17 #[.int .i64 n] w fun e w' => e = .returned (.int .i64 f) ∧ w' = w) → (∀ w, Calls Try.prog 17 #[.int .i64 1152921504606846975] w fun e w' => e = .returned (.int .i64 x) ∧ w' = w) → (∀ w, Calls Try.prog 17 #[.int .i64 (-1152921504606846976)] w fun e w' => e = .returned (.int .i64 y) ∧ w' = w) →
      (∀ w, Calls Try.prog 18 #[.int .i64 a0] w fun e w' => e = .returned (.tuple #[.int .i64 n, .bool ok]) ∧ Below w.heap.size w w') →
      pNone a0 = nn → lessB a0 x = l1 → lessB y a0 = l2 → (f == a0) = e → (n == 0) = z → (ok = false → z = true ∧ (nn = true ∨ l1 = false ∨ l2 = false)) →
      (ok = true → nn = false ∧ decide (n < -1152921504606846976) = false ∧ decide (1152921504606846975 < n) = false) →
      (ok = true → e = false → decide (-4503599627370496 < n) = true ∧ decide (n < 4503599627370496) = true ∧ lessB (bits .and .i64 (floR .sub a0 f) 9223372036854775807) 4607182418800017408 = true ∧
        (z = false → lessB (bits .and .i64 a0 9223372036854775807) (bits .and .i64 f 9223372036854775807) = false)) →
      Calls Try.prog 6 #[.int .i64 a0] w fun e w' => e = .returned (.bool true) ∧ Below w.heap.size w w' := by
    clear N1 N2 i1 i2
    intro n f x y ok nn l1 l2 e z cn cm cl cx k1 k2 k3 k4 k5 p1 p2 p3
    have h0 := Below.refl w.heap.size w
    have CN := hid_mk cn
    have CM := hid_mk cm
    have CL := hid_mk cl
    have CX := hid_mk cx
    have P1 := hid_mk p1
    have P2 := hid_mk p2
    have P3 := hid_mk p3
    clear cn cm cl cx p1 p2 p3 w0
    cases ok
    · clear P2 P3 k4
      cases z
      · exact absurd (P1.out rfl).1 (by decide)
      cases nn <;> cases l1 <;> cases l2
      all_goals first | (exact absurd (P1.out rfl).2 (by decide)) | skip
      all_goals
        clear P1
        go_enter Try.func6, Try.ntmps6
        go_wp2_with (first
          | (go_at_call 14; refine (calls_rel (alive_any _) (by assumption)).mono ?_; rintro e w1 ⟨rfl, hg⟩)
          | (go_at_call 13; refine calls_same (number_any _ _) ?_)
          | (go_at_call 17; first | refine calls_same (CM.out _) ?_ | refine calls_same (CL.out _) ?_)
          | (go_at_call 15; refine calls_same (fixFloLess_any _ _ _) ?_)
          | (go_at_call 18; refine (calls_rel (CX.out _) (by assumption)).mono ?_; rintro e w1 ⟨rfl, hg⟩))
        all_goals go_ret
        all_goals exact ⟨by first | rfl | (simp; done) | assumption, by assumption⟩
    · clear P1 k2 k3
      obtain ⟨q1, q2, q3⟩ := P2.out rfl
      clear P2
      cases q1
      cases e <;> cases z
      all_goals
        first
          | (obtain ⟨r1, r2, r3, r4⟩ := P3.out rfl rfl; have r5 := r4 rfl; clear r4)
          | (obtain ⟨r1, r2, r3, r4⟩ := P3.out rfl rfl; clear r4)
          | skip
        clear P3
        go_enter Try.func6, Try.ntmps6
        go_wp2_with (first
          | (go_at_call 14; refine (calls_rel (alive_any _) (by assumption)).mono ?_; rintro e w1 ⟨rfl, hg⟩)
          | (go_at_call 13; refine calls_same (number_any _ _) ?_)
          | (go_at_call 17; refine calls_same (CN.out _) ?_)
          | (go_at_call 15; refine calls_same (fixFloLess_any _ _ _) ?_)
          | (go_at_call 9; refine (calls_rel (fixFloSub_any _ _ _) (by assumption)).mono ?_; rintro e w1 ⟨rfl, hg⟩)
          | (go_at_call 18; refine (calls_rel (CX.out _) (by assumption)).mono ?_; rintro e w1 ⟨rfl, hg⟩))
        all_goals go_ret
        all_goals first | (exfalso; have k6 : f = a0 := by simpa using k4
                           contradiction) | exact ⟨by first | rfl | (simp; done) | assumption, by assumption⟩
  refine key (nV a0) (toFloV (fwrap (nV a0))) 4877398396442247168 (-4345973640412528640) (okV a0) _ _ _ _ _ (fixToFlo_any _) ?_ ?_ (fun w => fixToFix_any _ w i1 i2) rfl rfl rfl rfl rfl ?_ ?_ ?_
  · intro w; have := fixToFlo_any 1152921504606846975 w; rw [show fwrap 1152921504606846975 = 1152921504606846975 by decide, toFlo_most] at this; exact this
  · intro w; have := fixToFlo_any (-1152921504606846976) w; rw [show fwrap (-1152921504606846976) = -1152921504606846976 by decide, toFlo_least] at this; exact this
  · intro q
    obtain ⟨r1, r2⟩ := N1 q
    refine ⟨by rw [r1]; rfl, ?_⟩
    rw [less_link _ _ i1 i2 (by omega) (by omega), less_link _ _ (by omega) (by omega) i1 i2]
    unfold lessV
    rw [ord_most, ord_least]
    rcases r2 with r | r | r
    · exact .inl r
    · right; left; rw [decide_eq_false r]; simp
    · right; right; rw [decide_eq_false r]; simp
  · intro q
    obtain ⟨r1, r2, r3, _⟩ := N2 q
    exact ⟨r3, decide_eq_false (by omega), decide_eq_false (by omega)⟩
  · intro q hne
    obtain ⟨r1, r2, r3, r4⟩ := N2 q
    have hn : fwrap (nV a0) = nV a0 := by
      generalize nV a0 = z at r1 r2 ⊢
      unfold fwrap; omega
    rw [hn] at hne ⊢
    rcases r4 with r4 | ⟨s1, s2, s3, s4, s5⟩
    · rw [r4] at hne; simp at hne
    · rw [and_mask, and_mask, and_mask]
      refine ⟨decide_eq_true s1, decide_eq_true s2, ?_, ?_⟩
      · obtain ⟨m1, m2, m3, m4⟩ := ord_mask (floR .sub a0 (toFloV (nV a0)))
        rw [less_link _ _ m3 m4 (by omega) (by omega)]
        unfold lessV
        rw [m1, m2, s4, show pNone 4607182418800017408 = false by decide, show ordV 4607182418800017408 = 4607182418800017408 by decide, decide_eq_true s3]
        rfl
      · intro hz
        obtain ⟨m1, m2, m3, m4⟩ := ord_mask a0
        obtain ⟨g1, g2, g3, g4⟩ := ord_mask (toFloV (nV a0))
        apply not_less _ _ m3 m4 g3 g4
        rw [m1, g1]
        rcases s5 with s5 | s5
        · rw [s5] at hz; simp at hz
        · exact s5

/-! ### THE ROW's STEP: WRITTEN OUT: LEAVE IT -/
set_option maxRecDepth 100000 in
theorem lifted (os : Os) (started : os.Started) (H : Type) (enc : TypeId × Value → H) :
    ReturnsInHanded {} Try.checked os 6 .any (Rows.fixCutsSpec.pre6 enc Try.prog Try.f6 Rows.fixCutsRow.domain false) (Rows.fixCutsSpec.post enc Try.prog Try.f6 false true false false) := by
  refine returnsInHanded_of_change (C := Try.checked) own started (by kernel_rfl) Try.func6
    (ChangeSpec.witness6 (enc := enc) (C := Try.checked) false ⟨#[], #[.int .i64 0], []⟩ 8 (by kernel_rfl) (by kernel_rfl) (by kernel_rfl) (by kernel_rfl)) ?_
  intro W base args ds gs before hval0 hW hcnd _
  have hval : ∀ (j : Nat) t v, Try.f6.params[j]? = some t → args[j]? = some v → Value.okWide Try.prog W .any base t v := hval0
  have hW' := hW
  obtain ⟨p, q, hA0, hV, rfl, hfz, hnd⟩ := hW
  have hA : DataW.TrodAll enc Try.prog W 0 (fun _ => true) true Try.f6.params.toList args.toList ds p := hA0
  rw [Try.params6] at hA hval
  obtain ⟨v0, vs0, d0, ds0, p0, q0, hargs, rfl, rfl, h0, r0⟩ := trodAll_cons hA
  obtain ⟨rfl, rfl, rfl⟩ := trodAll_nil r0
  obtain rfl : args = #[v0] := by cases args; simp_all
  obtain ⟨rfl, rfl⟩ := trodVars_none hV
  obtain ⟨a0, rfl, rfl, rfl, w0⟩ := open_int Try.underlying3 (hval 0 3 v0 rfl rfl) h0
  clear hA0 hval0
  simp only [List.append_nil] at hW'
  refine (walk a0 w0 W).mono fun e W' ⟨he, hg⟩ => ?_
  subst he
  exact ⟨_, rfl, _, _, _, [], [], [], hW', (trodAll_cons_mk (shut_bool Try.underlying4 _) trodAll_mk0), (trodAll_cons_mk (shut_int Try.underlying3 w0) trodAll_mk0), rfl, hg.frame _, fun h => by cases h⟩

theorem over : Rows.fixCutsRow.holds Try.pinned (OpenSpec.ofChange Rows.fixCutsSpec) :=
  OpenClaim.holds_of_wide 6 Try.f6 rfl rfl rfl rfl rfl rfl rfl ⟨rfl, rfl, rfl, rfl, rfl⟩ rfl rfl rfl rfl rfl (by kernel_rfl) Try.func6 (by kernel_rfl)
    (of_decide_eq_true (by kernel_rfl)) (by unfold Func.isWrapper; first | (rw [if_pos (by decide +kernel)]; kernel_rfl) | (rw [if_neg (by decide +kernel)]; exact ⟨rfl, rfl⟩))
    (fun os started H enc _ => lifted os started H enc)

/-- ████ THE STATEMENT ████ -/
theorem proved : Rows.FixCutsSaid :=
  over
#print axioms proved
end Go.Proofs.Yteepkghjphmegac.fixCuts
