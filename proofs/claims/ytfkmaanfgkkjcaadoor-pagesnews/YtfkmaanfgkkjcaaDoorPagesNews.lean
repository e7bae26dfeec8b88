/- PagesNews: the walk by contracts, then the row, then its card. -/
import Derived.Test.YtfkmaanfgkkjcaaDoorCards
import Derived.Test.YtfkmaanfgkkjcaaDoorGt
import Derived.Test.YtfkmaanfgkkjcaaDoorGv
namespace Go.Proofs.YtfkmaanfgkkjcaaDoor.pagesNews
open Go.ChangeShapes Go.WideShapes Go.ChangeAt Go.RowKit Go.Deep
set_option linter.unusedVariables false
set_option linter.unusedSimpArgs false

theorem walk_no (n : Int) (h : newB n = false) {w : World} (hT : Tab w) : Calls Tryd.prog 3 #[.int .i64 n] w fun e w' => e = .returned (.bool true) ∧ Below w.heap.size w w' := by
  have HM := hid_mk (made_no (w := w) n h)
  have HA := hid_mk (alive_any hT)
  clear h hT
  go_enter Tryd.func3, Tryd.ntmps3
  go_wp2_with (first | (go_at_call 9; refine calls_same HM.out ?_) | (go_at_call 10; refine HA.out.mono ?_; rintro e w1 ⟨rfl, ho⟩))
  go_ret
  exact ⟨rfl, ho.all⟩
set_option maxRecDepth 100000 in
set_option maxHeartbeats 4000000 in
theorem walk_yes (n : Nat) (h1 : 1 ≤ n) (h2 : n ≤ 4096) {w : World} (hT : Tab w) : Calls Tryd.prog 3 #[.int .i64 n] w fun e w' => e = .returned (.bool true) ∧ Below w.heap.size w w' := by
  have HM := hid_mk (made_yes (B := w.heap.size) hT (Nat.le_refl _) n h1 h2)
  have HT := hid_mk hT
  have HB : Hid (2 ≤ w.heap.size) := hT.lt
  have HTB : Hid (∀ w', Below w.heap.size w w' → Tab w') := fun w' g j hj => ⟨below_cell g (HT.out j hj).1 (by have := HB.out; omega), below_cell g (HT.out j hj).2 (by have := HB.out; omega)⟩
  clear hT
  go_enter Tryd.func3, Tryd.ntmps3
  go_wp2_with fail
  refine HM.out.mono ?_
  rintro e w1 ⟨d, rfl, hp, ho, hu, hO⟩
  have HP1 := hid_mk hp
  have HU1 := hid_mk hu
  have HO1 := hid_mk hO
  clear hp ho hu hO HM
  have HA := hid_mk (alive_any (HT.out.quiet HO1.out))
  go_wp2_with fail
  refine HA.out.mono ?_
  rintro e w2 ⟨rfl, ho⟩
  have HP2 := hid_mk (HP1.out.quiet ho)
  have HB2 : Hid (Below w.heap.size w w2) := (HO1.out.trans ho).all
  clear ho HA HP1 HO1
  go_wp2_with fail
  refine (looked_any HP2.out (HTB.out _ HB2.out) HU1.out 0 11 0 (by decide)).mono ?_
  rintro e w3 ⟨rfl, d3, ha, hu⟩
  have HP3 := hid_mk ha.1
  have HU3 := hid_mk hu
  have hb3 : d3.b = d.b := ha.2.2.2
  have HB3 : Hid (Below w.heap.size w w3) := HB2.out.trans (ha.below HP2.out)
  rw [← hb3]
  clear ha hu hb3 HP2 HB2 HU1
  go_wp2_with fail
  refine (looked_any HP3.out (HTB.out _ HB3.out) HU3.out 0 12 0 (by decide)).mono ?_
  rintro e w4 ⟨rfl, d4, ha, hu⟩
  have HP4 := hid_mk ha.1
  have hb4 : d4.b = d3.b := ha.2.2.2
  have HB4 : Hid (Below w.heap.size w w4) := HB3.out.trans (ha.below HP3.out)
  rw [← hb4]
  clear ha hu hb4 HP3 HB3 HU3
  go_wp2_with fail
  refine (apart_act HP4.out).mono ?_
  rintro e w5 ⟨rfl, d5, ha⟩
  have HB5 : Hid (Below w.heap.size w w5) := HB4.out.trans (ha.below HP4.out)
  clear ha HP4 HB4
  go_wp2
  go_ret
  exact ⟨rfl, HB5.out⟩
theorem walk (n : Int) (_ : (Lit.int .i64 n).wf = true) {w : World} (hT : Tab w) : Calls Tryd.prog 3 #[.int .i64 n] w fun e w' => e = .returned (.bool true) ∧ Below w.heap.size w w' := by
  cases h : newB n with
  | false => exact walk_no n h hT
  | true =>
    unfold newB at h
    simp at h
    obtain ⟨k, rfl⟩ := Int.eq_ofNat_of_zero_le (show 0 ≤ n by omega)
    exact walk_yes k (by omega) (by omega) hT

set_option maxRecDepth 100000 in
theorem lifted (os : Os) (started : os.Started) (H : Type) (enc : TypeId × Value → H) :
    ReturnsInHanded {} Tryd.checked os 3 .any (fun w args => (Rows.pagesNewsSpec.pre enc Tryd.prog Tryd.f3 [] false w args ∧ laidMetH Tryd.prog laidL w) ∧ sizedMet enc Tryd.prog Tryd.f3 (OpenSpec.ofChange Rows.pagesNewsSpec) false w args)
      (Rows.pagesNewsSpec.post enc Tryd.prog Tryd.f3 false true false false) := by
  refine returnsInHanded_of_change_and (C := Tryd.checked) (X := fun w _ => laidMetH Tryd.prog laidL w) (fun _ _ _ hh h => h.of_heap hh) own started (by kernel_rfl) Tryd.func3
    (ChangeSpec.witness_shaped (enc := enc) (C := Tryd.checked) (os := os) (X := fun w _ => laidMetH Tryd.prog laidL w) false (World.doorLaid Tryd.prog 400 os) #[.int .i64 0] 8 rfl (World.shaped_of_RefB (by kernel_rfl) (by kernel_rfl)) (by kernel_rfl) (by kernel_rfl) (by kernel_rfl) (door_met os _)) ?_
  intro W base args ds gs before hval0 hW _ _ hL _
  have hval : ∀ (j : Nat) t v, Tryd.f3.params[j]? = some t → args[j]? = some v → Value.okWide Tryd.prog W .any base t v := hval0
  have hW' := hW
  obtain ⟨p, q, hA0, hV, rfl, hfz, hnd⟩ := hW
  have hA : DataW.TrodAll enc Tryd.prog W 0 (fun _ => true) true Tryd.f3.params.toList args.toList ds p := hA0
  have hT := tab_of_laid hL
  rw [Tryd.params3] at hA hval
  obtain ⟨v0, vs0, d0, ds0, p0, q0, hargs, rfl, rfl, h0, r0⟩ := trodAll_cons hA
  obtain ⟨rfl, rfl, rfl⟩ := trodAll_nil r0
  obtain rfl : args = #[v0] := by cases args; simp_all
  obtain ⟨rfl, rfl⟩ := trodVars_none hV
  have hlt0 : ∀ x ∈ p0, x.block < W.heap.size := fun x hx => by simpa using hW'.lt x (by simp [hx])
  have h0k := h0
  obtain ⟨a0, hv0, _, _, w0⟩ := open_int Tryd.underlying3 (hval 0 3 v0 rfl rfl) h0
  clear hA0 hval0
  subst hv0
  refine (walk a0 w0 hT).mono fun e W' ⟨he, hg⟩ => ?_
  subst he
  exact ⟨_, rfl, _, _, _, [], _, [], hW', (trodAll_cons_mk (shut_bool Tryd.underlying4 _) trodAll_mk0), (trodAll_cons_mk (Below.trod laid_out (by kernel_rfl) (of_decide_eq_true (by kernel_rfl)) h0k hg hlt0) trodAll_mk0), rfl, hg.frame _, fun h => by cases h⟩

theorem over : Rows.PagesNewsSaid :=
  OpenClaim.holds_of_wide 3 Tryd.f3 rfl rfl rfl rfl rfl rfl rfl ⟨rfl, rfl, rfl, rfl, rfl⟩ rfl rfl rfl rfl rfl (by kernel_rfl) Tryd.func3 (by kernel_rfl)
    (of_decide_eq_true (by kernel_rfl)) (by unfold Func.isWrapper; first | (rw [if_pos (by decide +kernel)]; kernel_rfl) | (rw [if_neg (by decide +kernel)]; exact ⟨rfl, rfl⟩))
    (fun os started H enc _ => lifted os started H enc)

/-- ████ THE STATEMENT: THE TIED CARD ████ -/
theorem proved : Rows.PagesNewsCardSaid :=
  Claim7.holds_tied_plain_at .later [] [.data, .data] true (true, "9629a24b328dc8a7f2a7b5509a8442cabf474c191529b22860c88007c580470a") false
    over (fun _ h => by cases h) (by kernel_rfl) (fun _ h => by cases h) pagesNews_row_tie rfl ⟨rfl, rfl⟩ (by kernel_rfl) rfl
    (fun f fn hf hfn => by
      obtain rfl : f = 3 := Option.some.inj ((show Tryd.prog.funcNamed "hearth/hearthlaw7.PagesNews" = some 3 by kernel_rfl).symm.trans hf) |>.symm
      obtain rfl : fn = Tryd.f3 := (Option.some.inj (Tryd.func3.symm.trans hfn)).symm
      exact ⟨by kernel_rfl, fun j t ht => by
        rw [Tryd.params3] at ht
        have hm : t ∈ [3] := by simpa using Array.mem_of_getElem? ht
        have hall : ([3].all fun u => !Tryd.prog.wantsStandIn u) = true := by kernel_rfl
        exact (show Tryd.prog.wantsStandIn t = false by simpa using List.all_eq_true.1 hall t hm)⟩)
    (by kernel_rfl)
#print axioms proved
end Go.Proofs.YtfkmaanfgkkjcaaDoor.pagesNews
