/- from whole numbers to floats and back -/
import Derived.Test.YteepkghjphmegabM3
namespace Go.Proofs.Yteepkghjphmegab
open Go.ChangeShapes Go.WideShapes Go.ChangeAt Go.RowKit
set_option linter.unusedVariables false
set_option linter.unusedSimpArgs false

theorem fixToFlo_any (v : Int) (w : World) :
    Calls Try.prog 10 #[.int .i64 v] w fun e w' => e = .returned (.int .i64 (toFloV (fwrap v))) ∧ w' = w := by
  have H := hid_mk (floatOfInt_bits (fwrap v))
  go_enter Try.func10, Try.ntmps10
  go_wp2_with (first | (go_at_call 17; refine (fixWrap_any _ _).mono ?_; rintro e w' ⟨rfl, rfl⟩) | (go_at_call 24; refine (fixBits_any _ _).mono ?_; rintro e w' ⟨rfl, rfl⟩))
  go_ret
  exact ⟨ret_int H.out, rfl⟩

theorem archTrunc_run (args : Array Value) (w : World) : (callFunc 62 args).run Try.prog w = ((Extern.MathFloor.toIntegral "math.archTrunc" .zero args).run Try.prog w).andThen fun v w' => .ok (.value v) w' :=
  run_callFunc_extern (e := Extern.MathFloor.toIntegral "math.archTrunc" .zero) Try.func62 (by kernel_rfl) (by kernel_rfl) (by kernel_rfl) (by kernel_rfl) args w
theorem arch_fin (x : Nat) (s : Bool) (m : Nat) (e : Int) (h : FloatKind.f64.decode x = .number s m e) (w : World) :
    (Extern.MathFloor.toIntegral "math.archTrunc" .zero #[.float .f64 x]).run Try.prog w = .ok (.float .f64 (FloatKind.f64.encode ((Ieee.Datum.number s m e).integral .zero))) w := by
  unfold Extern.MathFloor.toIntegral
  generalize FloatKind.decode = dec at h ⊢
  conv => lhs; arg 2; whnf
  rw [h]
  rfl
theorem arch_infi (x : Nat) (s : Bool) (h : FloatKind.f64.decode x = .infinity s) (w : World) :
    (Extern.MathFloor.toIntegral "math.archTrunc" .zero #[.float .f64 x]).run Try.prog w = .ok (.float .f64 (FloatKind.f64.encode (.infinity s))) w := by
  unfold Extern.MathFloor.toIntegral
  generalize FloatKind.decode = dec at h ⊢
  conv => lhs; arg 2; whnf
  rw [h]
  rfl
theorem arch_num (a : Int) (w : World) (h1 : -9223372036854775808 ≤ a) (h2 : a ≤ 9223372036854775807) (na : pNone a = false) :
    (callFunc 62 #[.float .f64 (pat a)]).run Try.prog w = .ok (.value (.float .f64 (pat (truncV a)))) w := by
  rw [archTrunc_run]
  have hd : FloatKind.f64.decode (pat a) = if pInf a = true then .infinity (pNeg a) else .number (pNeg a) (pWhole a).toNat (pExp a) := by
    show FloatKind.f64.format.read (pat a) = _
    rw [read_pat a h1 h2, if_neg (by simp [na])]
  by_cases ia : pInf a = true
  · rw [if_pos ia] at hd
    have he : FloatKind.f64.encode (.infinity (pNeg a)) = pat (truncV a) := by
      have ht : truncV a = a := by unfold truncV; rw [if_pos ia]
      rw [ht]
      show FloatKind.f64.format.word (pNeg a) FloatKind.f64.format.infRung = pat a
      have hw := word_wrap (pNeg a) 9218868437227405312 (by decide)
      rw [f64_inf]
      have hlt : FloatKind.f64.format.word (pNeg a) 9218868437227405312 < 18446744073709551616 := by cases pNeg a <;> decide
      rw [← pat_wrap _ hlt, hw]
      congr 1
      exact inf_is a h1 h2 ia
    rw [arch_infi _ _ hd, he]; rfl
  · rw [if_neg ia] at hd
    have he := trunc_num a
    have ht : truncV a = rndV (pNeg a) (flV (pWhole a) (-(pExp a))) 0 false := by unfold truncV; rw [if_neg ia]
    rw [ht, ← he, arch_fin _ _ _ _ hd]; rfl
theorem nan_isnan (s : Bool) (t : Nat) (h0 : t ≠ 0) (h1 : t < 4503599627370496) : ∃ b u, FloatKind.f64.format.read (FloatKind.f64.encode (.nan s t)) = .nan b u := by
  have he : FloatKind.f64.encode (.nan s t) = (if s = true then 1 else 0) * 9223372036854775808 + 9218868437227405312 + 1 + (t - 1) := by
    show FloatKind.f64.format.word s (FloatKind.f64.format.infRung + t % FloatKind.f64.format.binade) = _
    unfold Ieee.Format.word
    rw [f64_inf, f64_bin, f64_sign, Nat.mod_eq_of_lt h1]
    cases s <;> simp <;> omega
  rw [he]
  exact read_nan _ _ (by cases s <;> simp) (by omega)
theorem quiet_pos (t : Nat) (h1 : t < 4503599627370496) : FloatKind.f64.format.quiet t ≠ 0 ∧ FloatKind.f64.format.quiet t < 4503599627370496 := by
  have e : FloatKind.f64.format.quiet t = t ||| 2251799813685248 := rfl
  rw [e]
  constructor
  · intro h; have := (Nat.or_eq_zero_iff.1 h).2; omega
  · have : t ||| 2251799813685248 < 2 ^ 52 := Nat.or_lt_two_pow (by omega) (by decide)
    omega
theorem arch_quiet (x : Nat) (s : Bool) (t : Nat) (h : FloatKind.f64.decode x = .nan s t) (hq : FloatKind.f64.format.quiet t = t) (w : World) :
    (Extern.MathFloor.toIntegral "math.archTrunc" .zero #[.float .f64 x]).run Try.prog w = .ok (.float .f64 x) w := by
  unfold Extern.MathFloor.toIntegral
  generalize FloatKind.decode = dec at h ⊢
  conv => lhs; arg 2; whnf
  rw [h]
  dsimp only
  rw [if_pos hq]
  rfl
theorem arch_loud (x : Nat) (s : Bool) (t : Nat) (h : FloatKind.f64.decode x = .nan s t) (hq : ¬ FloatKind.f64.format.quiet t = t) (w : World) :
    ∃ n w', (Extern.MathFloor.toIntegral "math.archTrunc" .zero #[.float .f64 x]).run Try.prog w = .ok (.float .f64 n) w' ∧ (n = x ∨ n = FloatKind.f64.encode (.nan s (FloatKind.f64.format.quiet t))) ∧ Below w.heap.size w w' := by
  unfold Extern.MathFloor.toIntegral
  generalize FloatKind.decode = dec at h ⊢
  conv => arg 1; ext n; arg 1; ext w'; arg 1; lhs; arg 2; whnf
  rw [h]
  dsimp only
  rw [if_neg hq]
  rw [Sem.run_bind, run_choose_drew, if_neg (by simp [Question.forced])]
  refine ⟨_, _, rfl, ?_, (Below.refl _ _).drew⟩
  split
  · exact .inl rfl
  · exact .inr rfl
theorem arch_nan (a : Int) (w : World) (h1 : -9223372036854775808 ≤ a) (h2 : a ≤ 9223372036854775807) (na : pNone a = true) :
    ∃ n w', (callFunc 62 #[.float .f64 (pat a)]).run Try.prog w = .ok (.value (.float .f64 n)) w' ∧ (∃ s t, FloatKind.f64.format.read n = .nan s t) ∧ Below w.heap.size w w' := by
  rw [archTrunc_run]
  have hr := rg_bounds a
  have hd : FloatKind.f64.decode (pat a) = .nan (pNeg a) (rg a - 9218868437227405312).toNat := by
    show FloatKind.f64.format.read (pat a) = _
    rw [read_pat a h1 h2, if_pos na]
  have hd' : FloatKind.f64.format.read (pat a) = .nan (pNeg a) (rg a - 9218868437227405312).toNat := hd
  generalize ht : (rg a - 9218868437227405312).toNat = t at *
  have htl : t < 4503599627370496 := by omega
  obtain ⟨q0, q1⟩ := quiet_pos t htl
  obtain ⟨b, u, hb⟩ := nan_isnan (pNeg a) _ q0 q1
  by_cases hq : FloatKind.f64.format.quiet t = t
  · exact ⟨pat a, w, by rw [arch_quiet _ _ _ hd hq]; rfl, ⟨_, _, hd'⟩, Below.refl _ _⟩
  · obtain ⟨n, w', hrun, hn, hbe⟩ := arch_loud _ _ _ hd hq w
    refine ⟨n, w', by rw [hrun]; rfl, ?_, hbe⟩
    rcases hn with rfl | rfl
    · exact ⟨_, _, hd'⟩
    · exact ⟨_, _, hb⟩

theorem trunc_any (a : Int) (w : World) (h1 : -9223372036854775808 ≤ a) (h2 : a ≤ 9223372036854775807) (na : pNone a = false) :
    Calls Try.prog 44 #[.float .f64 (pat a)] w fun e w' => e = .returned (.float .f64 (pat (truncV a))) ∧ w' = w := by
  have hd := fun w => arch_num a w h1 h2 na
  go_enter Try.func44, Try.ntmps44
  go_wp2
  go_ret
  exact ⟨rfl, rfl⟩
theorem trunc_nan (a : Int) (w : World) (h1 : -9223372036854775808 ≤ a) (h2 : a ≤ 9223372036854775807) (na : pNone a = true) :
    Calls Try.prog 44 #[.float .f64 (pat a)] w fun e w' => ∃ n, e = .returned (.float .f64 n) ∧ (∃ s t, FloatKind.f64.format.read n = .nan s t) ∧ Below w.heap.size w w' := by
  obtain ⟨n, w1, hd, hn, hbe⟩ := arch_nan a w h1 h2 na
  have HN := hid_mk hn
  clear hn
  go_enter Try.func44, Try.ntmps44
  go_wp2
  go_ret
  exact ⟨n, rfl, HN.out, hbe⟩
set_option maxHeartbeats 1000000 in
theorem fixToFix_any (a : Int) (w : World) (h1 : -9223372036854775808 ≤ a) (h2 : a ≤ 9223372036854775807) :
    Calls Try.prog 29 #[.int .i64 a] w fun e w' => e = .returned (.tuple #[.int .i64 (nV a), .bool (okV a)]) ∧ Below w.heap.size w w' := by
  by_cases na : pNone a = true
  · have hk : okV a = false := by unfold okV; simp [na]
    have hv : nV a = 0 := by unfold nV; rw [if_neg (by simp [hk])]
    rw [hk, hv]
    clear hk hv
    go_enter Try.func29, Try.ntmps29
    go_wp2_with (go_at_call 37; refine (fixFloat_any _ _).mono ?_; rintro e w' ⟨rfl, rfl⟩)
    refine (trunc_nan a _ h1 h2 na).mono ?_
    rintro e w1 ⟨n, rfl, ⟨s, t, hn⟩, hbe⟩
    have ho : ∀ c, FloatKind.f64.format.order n c = none := by
      intro c; unfold Ieee.Format.order; rw [hn]; cases FloatKind.f64.format.read c <;> rfl
    clear hn
    go_wp2
    all_goals go_ret2
    all_goals exact ⟨rfl, hbe⟩
  · have na' := Bool.eq_false_iff.mpr na
    clear na
    obtain ⟨⟨t1, t2⟩, tn, tok, tv⟩ := trunc_facts a h1 h2 na'
    have hg := order_link (truncV a) (-4345973640412528640) t1 t2 (by omega) (by omega) tn (by decide)
    have hl := less_link (truncV a) 4877398396442247168 t1 t2 (by omega) (by omega)
    unfold lessB lessV at hl
    rw [tn, pat_most, ord_most] at hl
    rw [pat_least, ord_least] at hg
    have hz : (!pNone 4877398396442247168) = true := by decide
    rw [hz] at hl
    simp only [Bool.not_false, Bool.true_and] at hl
    obtain ⟨T, hT⟩ : ∃ T, T = pat (truncV a) := ⟨_, rfl⟩
    rw [← hT] at hg hl tv
    have HT := hid_mk hT
    have hcall := fun w => trunc_any a w h1 h2 na'
    rw [← hT] at hcall
    have HC : Hid (∀ w, Calls Try.prog 44 #[.float .f64 (pat a)] w fun e w' => e = .returned (.float .f64 T) ∧ w' = w) := hcall
    clear hT hcall
    by_cases hk : okV a = true
    · have hc : ∀ w, (convert 35 3 (.float .f64 T)).run Try.prog w = .ok (.int .i64 (nV a)) w := fun w =>
        run_convert_float_int w 35 3 .f64 .i64 T (nV a) (by rw [Try.underlying35]; rfl) Try.underlying3 (tv hk)
      rw [decide_eq_true (tok.1 hk).1] at hg
      rw [decide_eq_true (tok.1 hk).2] at hl
      rw [hk]
      clear tok tv hk
      go_enter Try.func29, Try.ntmps29
      go_wp2_with (first | (go_at_call 37; refine (fixFloat_any _ _).mono ?_; rintro e w' ⟨rfl, rfl⟩) | (go_at_call 44; refine (HC.out _).mono ?_; rintro e w' ⟨rfl, rfl⟩))
      all_goals go_ret2
      all_goals exact ⟨rfl, Below.refl _ _⟩
    · have hk' := Bool.eq_false_iff.mpr hk
      have hv : nV a = 0 := by unfold nV; rw [if_neg hk]
      rw [hk', hv]
      have hor : ¬ (-4877398396442247168 ≤ ordV (truncV a)) ∨ ¬ (ordV (truncV a) < 4877398396442247168) := by
        have := mt tok.2 hk
        omega
      clear tok tv hk hk' hv
      rcases hor with ho | ho
      · rw [decide_eq_false ho] at hg
        clear hl
        go_enter Try.func29, Try.ntmps29
        go_wp2_with (first | (go_at_call 37; refine (fixFloat_any _ _).mono ?_; rintro e w' ⟨rfl, rfl⟩) | (go_at_call 44; refine (HC.out _).mono ?_; rintro e w' ⟨rfl, rfl⟩))
        all_goals go_ret2
        all_goals exact ⟨rfl, Below.refl _ _⟩
      · rw [decide_eq_false ho] at hl
        generalize decide (-4877398396442247168 ≤ ordV (truncV a)) = g at hg
        cases g
        all_goals
          go_enter Try.func29, Try.ntmps29
          go_wp2_with (first | (go_at_call 37; refine (fixFloat_any _ _).mono ?_; rintro e w' ⟨rfl, rfl⟩) | (go_at_call 44; refine (HC.out _).mono ?_; rintro e w' ⟨rfl, rfl⟩))
          all_goals go_ret2
          all_goals exact ⟨rfl, Below.refl _ _⟩
end Go.Proofs.Yteepkghjphmegab
