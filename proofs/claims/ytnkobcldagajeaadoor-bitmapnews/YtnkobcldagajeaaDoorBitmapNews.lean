/- BitmapNews: the walk by contracts, then the row, then its card. -/
import Derived.Test.YtnkobcldagajeaaDoorCards
import Derived.Test.YtnkobcldagajeaaDoorLt
import Derived.Test.YtnkobcldagajeaaDoorLc
namespace Go.Proofs.YtnkobcldagajeaaDoor.bitmapNews
open Go.ChangeShapes Go.WideShapes Go.ChangeAt Go.RowKit Go.Deep
set_option linter.unusedVariables false
set_option linter.unusedSimpArgs false

theorem walk_mid (n : Int) (w : World) (hT : Tab w) (h1 : 20000 < n) (h2 : n < 262144) : Calls Tryd.prog 3 #[.int .i64 n] w fun e w' => e = .returned (.bool true) ∧ Out 0 0 w w' := by
  have HA := hid_mk (alive_any w hT)
  clear hT
  go_enter Tryd.func3, Tryd.ntmps3
  go_wp2_with (go_at_call 9; refine HA.out.mono ?_; rintro e w1 ⟨rfl, ho⟩)
  go_ret
  exact ⟨rfl, ho⟩
theorem walk_no (n : Int) (w : World) (hT : Tab w) (h : n < 0 ∨ 262144 < n) : Calls Tryd.prog 3 #[.int .i64 n] w fun e w' => e = .returned (.bool true) ∧ Out 0 0 w w' := by
  have HA := hid_mk (alive_any w hT)
  have HM := hid_mk (made_no n w h)
  rcases h with h | h
  · have h3 : n ≤ 20000 := by omega
    clear hT
    go_enter Tryd.func3, Tryd.ntmps3
    go_wp2_with (first | (go_at_call 10; refine calls_same HM.out ?_) | (go_at_call 9; refine HA.out.mono ?_; rintro e w1 ⟨rfl, ho⟩))
    go_ret
    exact ⟨rfl, ho⟩
  · have h3 : 20000 < n := by omega
    have h4 : 262144 ≤ n := by omega
    clear hT
    go_enter Tryd.func3, Tryd.ntmps3
    go_wp2_with (first | (go_at_call 10; refine calls_same HM.out ?_) | (go_at_call 9; refine HA.out.mono ?_; rintro e w1 ⟨rfl, ho⟩))
    go_ret
    exact ⟨rfl, ho⟩
theorem walk_yes (n : Nat) (w : World) (hT : Tab w) (h : n ≤ 20000 ∨ n = 262144) : Calls Tryd.prog 3 #[.int .i64 n] w fun e w' => e = .returned (.bool true) ∧ Out 0 0 w w' := by
  have HA := hid_mk (fun w hT => alive_any w hT)
  have HM := hid_mk (made_yes n w (by omega) hT)
  have HT := hid_mk hT
  clear hT
  rcases h with h | h
  · have h3 : (n : Int) ≤ 20000 := by omega
    go_enter Tryd.func3, Tryd.ntmps3
    go_wp2_with fail
    refine HM.out.mono ?_
    rintro e w1 ⟨p, rfl, hp, ho⟩
    have HP := hid_mk hp
    have HO := hid_mk ho
    clear hp ho
    go_wp2_with fail
    refine (HA.out w1 (HT.out.kept HO.out (.inr (Nat.le_refl _)))).mono ?_
    rintro e w2 ⟨rfl, ho⟩
    have HO2 := hid_mk ho
    clear ho
    go_wp2_with (go_at_call 11; refine (same_any (HP.out.quiet HO2.out)).mono ?_; rintro e w3 ⟨rfl, ho3⟩)
    go_ret
    exact ⟨rfl, (HO.out.trans HO2.out).trans ho3⟩
  · have h3 : 20000 < (n : Int) := by omega
    have h4 : 262144 ≤ (n : Int) := by omega
    clear h
    generalize hm : (n : Int) = m at *
    clear hm
    go_enter Tryd.func3, Tryd.ntmps3
    go_wp2_with fail
    refine HM.out.mono ?_
    rintro e w1 ⟨p, rfl, hp, ho⟩
    have HP := hid_mk hp
    have HO := hid_mk ho
    clear hp ho
    go_wp2_with fail
    refine (HA.out w1 (HT.out.kept HO.out (.inr (Nat.le_refl _)))).mono ?_
    rintro e w2 ⟨rfl, ho⟩
    have HO2 := hid_mk ho
    clear ho
    go_wp2_with (go_at_call 11; refine (same_any (HP.out.quiet HO2.out)).mono ?_; rintro e w3 ⟨rfl, ho3⟩)
    go_ret
    exact ⟨rfl, (HO.out.trans HO2.out).trans ho3⟩
theorem walk (n : Int) (_ : (Lit.int .i64 n).wf = true) {w : World} (hT : Tab w) : Calls Tryd.prog 3 #[.int .i64 n] w fun e w' => e = .returned (.bool true) ∧ Below w.heap.size w w' := by
  by_cases h : n < 0 ∨ 262144 < n
  · exact (walk_no n w hT h).mono fun e w' ⟨h1, h2⟩ => ⟨h1, h2.all⟩
  · by_cases h2 : 20000 < n ∧ n < 262144
    · exact (walk_mid n w hT h2.1 h2.2).mono fun e w' ⟨h1, h2⟩ => ⟨h1, h2.all⟩
    · obtain ⟨k, rfl⟩ := Int.eq_ofNat_of_zero_le (show 0 ≤ n by omega)
      exact (walk_yes k w hT (by omega)).mono fun e w' ⟨h1, h2⟩ => ⟨h1, h2.all⟩

set_option maxRecDepth 100000 in
theorem lifted (os : Os) (started : os.Started) (H : Type) (enc : TypeId × Value → H) :
    ReturnsInHanded {} Tryd.checked os 3 .any (fun w args => (Rows.bitmapNewsSpec.pre enc Tryd.prog Tryd.f3 [] false w args ∧ laidMetH Tryd.prog laidL w) ∧ sizedMet enc Tryd.prog Tryd.f3 (OpenSpec.ofChange Rows.bitmapNewsSpec) false w args)
      (Rows.bitmapNewsSpec.post enc Tryd.prog Tryd.f3 false true false false) := by
  refine returnsInHanded_of_change_and (C := Tryd.checked) (X := fun w _ => laidMetH Tryd.prog laidL w) (fun _ _ _ hh h => h.of_heap hh) own started (by kernel_rfl) Tryd.func3
    (ChangeSpec.witness_shaped (enc := enc) (C := Tryd.checked) (os := os) (X := fun w _ => laidMetH Tryd.prog laidL w) false (World.doorLaid Tryd.prog 400 os) #[.int .i64 0] 8 rfl (World.shaped_of_RefB (by kernel_rfl) (by kernel_rfl)) (by kernel_rfl) (by kernel_rfl) (by kernel_rfl) (door_met os _)) ?_
  intro W base args ds gs before hval0 hW _ _ hL _
  have hval : ∀ (j : Nat) t v, Tryd.f3.params[j]? = some t → args[j]? = some v → Value.okWide Tryd.prog W .any base t v := hval0
  have hW' := hW
  obtain ⟨p, q, hA0, hV, rfl, hfz, hnd⟩ := hW
  have hA : DataW.TrodAll enc Tryd.prog W 0 (fun _ => true) true Tryd.f3.params.toList args.toList ds p := hA0
  have hT := tab_of_laid hL
  rw [Tryd.params3] at hA hval
  obtain ⟨v0, vs0, d0, ds0, p0, q0, hargs, rfl, rfl, h0, r0⟩ := trodAll_cons hA
  obtain ⟨rfl, rfl, rfl⟩ := trodAll_nil r0
  obtain rfl : args = #[v0] := by cases args; simp_all
  obtain ⟨rfl, rfl⟩ := trodVars_none hV
  have hlt0 : ∀ x ∈ p0, x.block < W.heap.size := fun x hx => by simpa using hW'.lt x (by simp [hx])
  have h0k := h0
  obtain ⟨a0, hv0, _, _, w0⟩ := open_int Tryd.underlying3 (hval 0 3 v0 rfl rfl) h0
  clear hA0 hval0
  subst hv0
  refine (walk a0 w0 hT).mono fun e W' ⟨he, hg⟩ => ?_
  subst he
  exact ⟨_, rfl, _, _, _, [], _, [], hW', (trodAll_cons_mk (shut_bool Tryd.underlying4 _) trodAll_mk0), (trodAll_cons_mk (Below.trod laid_out (by kernel_rfl) (of_decide_eq_true (by kernel_rfl)) h0k hg hlt0) trodAll_mk0), rfl, hg.frame _, fun h => by cases h⟩

theorem over : Rows.BitmapNewsSaid :=
  OpenClaim.holds_of_wide 3 Tryd.f3 rfl rfl rfl rfl rfl rfl rfl ⟨rfl, rfl, rfl, rfl, rfl⟩ rfl rfl rfl rfl rfl (by kernel_rfl) Tryd.func3 (by kernel_rfl)
    (of_decide_eq_true (by kernel_rfl)) (by unfold Func.isWrapper; first | (rw [if_pos (by decide +kernel)]; kernel_rfl) | (rw [if_neg (by decide +kernel)]; exact ⟨rfl, rfl⟩))
    (fun os started H enc _ => lifted os started H enc)

/-- ████ THE STATEMENT: THE TIED CARD ████ -/
theorem proved : Rows.BitmapNewsCardSaid :=
  Claim7.holds_tied_plain_at .later [] [.data] true (true, "0db4938b30feab275eb4fd0dde17c8bfb5abf6d16b1201defe86e218058acf37") false
    over (fun _ h => by cases h) (by kernel_rfl) (fun _ h => by cases h) bitmapNews_row_tie rfl ⟨rfl, rfl⟩ (by kernel_rfl) rfl
    (fun f fn hf hfn => by
      obtain rfl : f = 3 := Option.some.inj ((show Tryd.prog.funcNamed "hearth/hearthlaw3.BitmapNews" = some 3 by kernel_rfl).symm.trans hf) |>.symm
      obtain rfl : fn = Tryd.f3 := (Option.some.inj (Tryd.func3.symm.trans hfn)).symm
      exact ⟨by kernel_rfl, fun j t ht => by
        rw [Tryd.params3] at ht
        have hm : t ∈ [3] := by simpa using Array.mem_of_getElem? ht
        have hall : ([3].all fun u => !Tryd.prog.wantsStandIn u) = true := by kernel_rfl
        exact (show Tryd.prog.wantsStandIn t = false by simpa using List.all_eq_true.1 hall t hm)⟩)
    (by kernel_rfl)
#print axioms proved
end Go.Proofs.YtnkobcldagajeaaDoor.bitmapNews
