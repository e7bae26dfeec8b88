/- BitmapLong: the walk by contracts, then the row, then its card. -/
import Derived.Test.YtnkobcldagajeabDoorCards
import Derived.Test.YtnkobcldagajeabDoorLt
import Derived.Test.YtnkobcldagajeabDoorMb
namespace Go.Proofs.YtnkobcldagajeabDoor.bitmapLong
open Go.ChangeShapes Go.WideShapes Go.ChangeAt Go.RowKit Go.Deep
set_option linter.unusedVariables false
set_option linter.unusedSimpArgs false

theorem gap_all (n : Nat) (h : 1 ≤ n) : nxr (runB (fun _ => false) n n) n 0 = 0 := by
  have e : nx (runB (fun _ => false) n n) n 0 = 0 := nx_eq _ n 0 0 (Nat.le_refl _) (Nat.zero_le _) (fun j h1 h2 => by omega) (fun _ => runB_of (by omega) fun _ _ _ => rfl)
  unfold nxr
  rw [e, if_pos (by omega)]; rfl
set_option maxRecDepth 100000 in
set_option maxHeartbeats 4000000 in
theorem key {v : Value} {len : Nat} {q : Nat → Int} (n i : Nat) (hn : (n : Int) = 262144) (hi' : (i : Int) = 262143) {w : World} (hT : Tab w) (hL : ListAt w v len q) :
    Calls Tryd.prog 6 #[v] w fun e w' => e = .returned (.bool true) ∧ Out 0 0 w w' := by
  have hfi := filled_any n (by omega) (by omega) hT hL
  rw [hn] at hfi
  have HFi := hid_mk hfi
  have HN := hid_mk hn
  have HI := hid_mk hi'
  have HT := hid_mk hT
  have HNi : Hid (n = i + 1) := by show n = i + 1; omega
  clear hfi hn hi' hT hL
  go_enter Tryd.func6, Tryd.ntmps6
  go_wp2_with fail
  refine HFi.out.mono ?_
  rintro e w1 ⟨m, hi, S, rfl, hm, _, ho⟩
  have HM := hid_mk hm
  have HO := hid_mk ho
  clear hm ho HFi
  go_wp2_with fail
  refine calls_same (new_no 262145 _ (.inr (by omega))) ?_
  go_wp2_with fail
  refine calls_same (set_no HM.out 262144 (by have := HN.out; simp [inB]; omega)) ?_
  go_wp2_with fail
  have hs := set_yes HM.out i (by have := HNi.out; omega)
  rw [HI.out] at hs
  refine hs.mono ?_
  rintro e w2 ⟨rfl, hm2, ho2⟩
  obtain ⟨S2, hS2⟩ : ∃ S2, upd S i true = S2 := ⟨_, rfl⟩
  have HS2 : Hid (S2 i = true) := by show S2 i = true; rw [← hS2]; unfold upd; rw [if_pos rfl]
  rw [hS2] at hm2
  have HM2 := hid_mk hm2
  have HO2 : Hid (Out 0 0 w w2) := HO.out.past ho2 (Nat.le_refl _)
  clear hm2 ho2 hs HM HO hS2
  go_wp2_with fail
  have hg := get_yes HM2.out i (by have := HNi.out; omega)
  rw [HI.out, HS2.out] at hg
  refine hg.mono ?_
  rintro e w3 ⟨rfl, ho3⟩
  have HM3 := hid_mk (HM2.out.quiet ho3)
  have HO3 := hid_mk (HO2.out.trans ho3)
  clear ho3 hg HM2 HO2
  go_wp2_with fail
  have hx := next_any HM3.out 262143
  have hx1 : nxr S2 n (262143 : Int).toNat = 262143 := by
    have a1 := HI.out
    have a2 := HNi.out
    rw [show (262143 : Int).toNat = i from by omega]
    have e := nx_eq S2 n i i (Nat.le_refl _) (by omega) (fun j h1 h2 => by omega) (fun _ => HS2.out)
    unfold nxr
    rw [e, if_pos (by omega)]
    exact a1
  rw [hx1] at hx
  refine hx.mono ?_
  rintro e w4 ⟨rfl, ho4⟩
  have HM4 := hid_mk (HM3.out.quiet ho4)
  have HO4 := hid_mk (HO3.out.trans ho4)
  clear ho4 hx hx1 HM3 HO3
  go_wp2_with fail
  have hx := next_any HM4.out 262144
  have hx1 : nxr S2 n (262144 : Int).toNat = -1 := by
    have a1 := HN.out
    rw [show (262144 : Int).toNat = n from by omega]
    unfold nxr
    rw [nx_end _ _ _ (Nat.le_refl _), if_neg (by omega)]
  rw [hx1] at hx
  refine hx.mono ?_
  rintro e w5 ⟨rfl, ho5⟩
  have HM5 := hid_mk (HM4.out.quiet ho5)
  have HO5 := hid_mk (HO4.out.trans ho5)
  clear ho5 hx hx1 HM4 HO4
  go_wp2_with fail
  refine (copy_any HM5.out).mono ?_
  rintro e w6 ⟨c, rfl, hc6, ho6⟩
  have HM6 := hid_mk (HM5.out.quiet ho6)
  have HO6 := hid_mk (HO5.out.trans ho6)
  have HZ : Hid (hi ≤ w5.heap.size) := HM5.out.bounds.2.2.1
  obtain ⟨lc, hlc⟩ : ∃ lc, w5.heap.size = lc := ⟨_, rfl⟩
  obtain ⟨hc, hhc⟩ : ∃ hc, w6.heap.size = hc := ⟨_, rfl⟩
  rw [hlc, hhc] at hc6
  rw [hlc] at HZ
  have HC6 := hid_mk hc6
  clear hc6 ho6 HM5 HO5 hlc hhc
  obtain ⟨k, hk⟩ : ∃ k, cnt S2 n = k := ⟨_, rfl⟩
  have HK := hid_mk hk
  have hkk : ((k : Int) != k) = false := by simp
  clear hk
  go_wp2_with fail
  have hct := count_any HC6.out
  rw [HK.out] at hct
  refine hct.mono ?_
  rintro e w7 ⟨rfl, ho7⟩
  have HM7 := hid_mk (HM6.out.quiet ho7)
  have HC7 := hid_mk (HC6.out.quiet ho7)
  have HO7 := hid_mk (HO6.out.trans ho7)
  clear ho7 hct HM6 HC6 HO6
  go_wp2_with fail
  have hct := count_any HM7.out
  rw [HK.out] at hct
  refine hct.mono ?_
  rintro e w8 ⟨rfl, ho8⟩
  have HM8 := hid_mk (HM7.out.quiet ho8)
  have HC8 := hid_mk (HC7.out.quiet ho8)
  have HO8 := hid_mk (HO7.out.trans ho8)
  clear ho8 hct HM7 HC7 HO7
  go_wp2_with fail
  refine (reset_any HM8.out).mono ?_
  rintro e w9 ⟨rfl, hm9, ho9⟩
  have HM9 := hid_mk hm9
  have HC9 := hid_mk (HC8.out.kept ho9 (.inr HZ.out) (.inl HM8.out.bounds.2.2.2.1))
  have HO9 : Hid (Out 0 0 w w9) := HO8.out.past ho9 (Nat.le_refl _)
  clear ho9 hm9 HM8 HC8 HO8
  go_wp2_with fail
  have hct := count_any HM9.out
  rw [cnt_zero (S := fun _ => false) (fun _ _ => rfl), show ((0 : Nat) : Int) = 0 from rfl] at hct
  refine hct.mono ?_
  rintro e wA ⟨rfl, hoA⟩
  have HMA := hid_mk (HM9.out.quiet hoA)
  have HCA := hid_mk (HC9.out.quiet hoA)
  have HOA := hid_mk (HO9.out.trans hoA)
  clear hoA hct HM9 HC9 HO9
  go_wp2_with fail
  have hg := gap_any HMA.out 0 262144
  have hg1 : gapV (fun _ => false) n 0 262144 = 0 := by
    have a1 := HN.out
    unfold gapV
    rw [if_neg (by omega), show (262144 : Int).toNat = n from by omega, show (0 : Int).toNat = 0 from rfl]
    exact gap_all n (by omega)
  rw [hg1] at hg
  refine hg.mono ?_
  rintro e wB ⟨rfl, hoB⟩
  have HCB := hid_mk (HCA.out.quiet hoB)
  have HOB := hid_mk (HOA.out.trans hoB)
  clear hoB hg hg1 HMA HCA HOA
  go_wp2_with fail
  have hg := get_yes HCB.out i (by have := HNi.out; omega)
  rw [HI.out, HS2.out] at hg
  refine hg.mono ?_
  rintro e wC ⟨rfl, hoC⟩
  have HCC := hid_mk (HCB.out.quiet hoC)
  have HOC := hid_mk (HOB.out.trans hoC)
  clear hoC hg HCB HOB
  go_wp2_with fail
  have hl := len_any HCC.out
  rw [HN.out] at hl
  refine calls_same hl ?_
  clear hl
  go_wp2_with fail
  refine (alive_any wC (HT.out.kept HOC.out (.inr (Nat.le_refl _)))).mono ?_
  rintro e wD ⟨rfl, hoD⟩
  have HOD := hid_mk (HOC.out.trans hoD)
  clear hoD
  go_wp2
  go_ret
  exact ⟨rfl, HOD.out⟩
theorem walk {H : Type} {enc : TypeId × Value → H} {W : World} {fuel : Nat} {v : Value} {x : DataW H × List MemPlace} (h : DataW.trod enc Tryd.prog W 0 (fun _ => true) true fuel 22 v.cells.toList = some x) (hv : ∃ a len cap, v = .slice a len cap) (hT : Tab W) :
    Calls Tryd.prog 6 #[v] W fun e w' => e = .returned (.bool true) ∧ Below W.heap.size W w' := by
  obtain ⟨len, q, hL⟩ := open_nums h hv
  exact (key 262144 262143 (by omega) (by omega) hT hL).mono fun e w' ⟨h1, h2⟩ => ⟨h1, h2.all⟩

set_option maxRecDepth 100000 in
theorem lifted (os : Os) (started : os.Started) (H : Type) (enc : TypeId × Value → H) :
    ReturnsInHanded {} Tryd.checked os 6 .any (fun w args => (Rows.bitmapLongSpec.pre enc Tryd.prog Tryd.f6 [] false w args ∧ laidMetH Tryd.prog laidL w) ∧ sizedMet enc Tryd.prog Tryd.f6 (OpenSpec.ofChange Rows.bitmapLongSpec) false w args)
      (Rows.bitmapLongSpec.post enc Tryd.prog Tryd.f6 false true false false) := by
  refine returnsInHanded_of_change_and (C := Tryd.checked) (X := fun w _ => laidMetH Tryd.prog laidL w) (fun _ _ _ hh h => h.of_heap hh) own started (by kernel_rfl) Tryd.func6
    (ChangeSpec.witness_shaped (enc := enc) (C := Tryd.checked) (os := os) (X := fun w _ => laidMetH Tryd.prog laidL w) false (World.doorLaid Tryd.prog 400 os) #[.slice none 0 0] 8 rfl (World.shaped_of_RefB (by kernel_rfl) (by kernel_rfl)) (by kernel_rfl) (by kernel_rfl) (by kernel_rfl) (door_met os _)) ?_
  intro W base args ds gs before hval0 hW _ _ hL _
  have hval : ∀ (j : Nat) t v, Tryd.f6.params[j]? = some t → args[j]? = some v → Value.okWide Tryd.prog W .any base t v := hval0
  have hW' := hW
  obtain ⟨p, q, hA0, hV, rfl, hfz, hnd⟩ := hW
  have hA : DataW.TrodAll enc Tryd.prog W 0 (fun _ => true) true Tryd.f6.params.toList args.toList ds p := hA0
  have hT := tab_of_laid hL
  rw [Tryd.params6] at hA hval
  obtain ⟨v0, vs0, d0, ds0, p0, q0, hargs, rfl, rfl, h0, r0⟩ := trodAll_cons hA
  obtain ⟨rfl, rfl, rfl⟩ := trodAll_nil r0
  obtain rfl : args = #[v0] := by cases args; simp_all
  obtain ⟨rfl, rfl⟩ := trodVars_none hV
  have hlt0 : ∀ x ∈ p0, x.block < W.heap.size := fun x hx => by simpa using hW'.lt x (by simp [hx])
  have h0k := h0
  obtain ⟨a0, len0, cap0, hv0⟩ := okWide_slice Tryd.underlying22 (hval 0 22 v0 rfl rfl)
  obtain ⟨fuel0, hf0⟩ := h0
  clear hA0 hval0
  refine (walk hf0 ⟨a0, len0, cap0, hv0⟩ hT).mono fun e W' ⟨he, hg⟩ => ?_
  subst he
  exact ⟨_, rfl, _, _, _, [], _, [], hW', (trodAll_cons_mk (shut_bool Tryd.underlying4 _) trodAll_mk0), (trodAll_cons_mk (Below.trod laid_out (by kernel_rfl) (of_decide_eq_true (by kernel_rfl)) h0k hg hlt0) trodAll_mk0), rfl, hg.frame _, fun h => by cases h⟩

theorem over : Rows.BitmapLongSaid :=
  OpenClaim.holds_of_wide 6 Tryd.f6 rfl rfl rfl rfl rfl rfl rfl ⟨rfl, rfl, rfl, rfl, rfl⟩ rfl rfl rfl rfl rfl (by kernel_rfl) Tryd.func6 (by kernel_rfl)
    (of_decide_eq_true (by kernel_rfl)) (by unfold Func.isWrapper; first | (rw [if_pos (by decide +kernel)]; kernel_rfl) | (rw [if_neg (by decide +kernel)]; exact ⟨rfl, rfl⟩))
    (fun os started H enc _ => lifted os started H enc)

/-- ████ THE STATEMENT: THE TIED CARD ████ -/
theorem proved : Rows.BitmapLongCardSaid :=
  Claim7.holds_tied_plain_at .later [] [.data] true (true, "1b3c0876e991e43fe6dfc5f29e841074561da3120470ae124b27c0a000ab4120") false
    over (fun _ h => by cases h) (by kernel_rfl) (fun _ h => by cases h) bitmapLong_row_tie rfl ⟨rfl, rfl⟩ (by kernel_rfl) rfl
    (fun f fn hf hfn => by
      obtain rfl : f = 6 := Option.some.inj ((show Tryd.prog.funcNamed "hearth/hearthlaw3.BitmapLong" = some 6 by kernel_rfl).symm.trans hf) |>.symm
      obtain rfl : fn = Tryd.f6 := (Option.some.inj (Tryd.func6.symm.trans hfn)).symm
      exact ⟨by kernel_rfl, fun j t ht => by
        rw [Tryd.params6] at ht
        have hm : t ∈ [22] := by simpa using Array.mem_of_getElem? ht
        have hall : ([22].all fun u => !Tryd.prog.wantsStandIn u) = true := by kernel_rfl
        exact (show Tryd.prog.wantsStandIn t = false by simpa using List.all_eq_true.1 hall t hm)⟩)
    (by kernel_rfl)
#print axioms proved
end Go.Proofs.YtnkobcldagajeabDoor.bitmapLong
