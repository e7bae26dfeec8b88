/- BitmapParts: the walk by contracts, then the row, then its card. -/
import Derived.Test.YtnkobcldagajeabDoorCards
import Derived.Test.YtnkobcldagajeabDoorLt
import Derived.Test.YtnkobcldagajeabDoorMb
namespace Go.Proofs.YtnkobcldagajeabDoor.bitmapParts
open Go.ChangeShapes Go.WideShapes Go.ChangeAt Go.RowKit Go.Deep
set_option linter.unusedVariables false
set_option linter.unusedSimpArgs false

set_option maxRecDepth 100000 in
set_option maxHeartbeats 4000000 in
theorem key {v : Value} {len : Nat} {q : Nat → Int} (x0 x2 x3 : Int) (t n A B : Nat) {w : World} (hT : Tab w) (hL : ListAt w v len q)
    (ht : wth x0 20000 = t) (hn : 1 + (t : Int) = n) (hA : wth x2 ((n : Int) + 1) = A) (hB : wth x3 ((n : Int) + 1) = B) (ht2 : t < 20000) (hA2 : A ≤ n) (hB2 : B ≤ n)
    (r0 : -9223372036854775808 ≤ x0 ∧ x0 ≤ 9223372036854775807) (r2 : -9223372036854775808 ≤ x2 ∧ x2 ≤ 9223372036854775807) (r3 : -9223372036854775808 ≤ x3 ∧ x3 ≤ 9223372036854775807) :
    Calls Tryd.prog 3 #[.int .i64 x0, v, .int .i64 x2, .int .i64 x3] w fun e w' => e = .returned (.bool true) ∧ Out 0 0 w w' := by
  have hw0 := fun w => within_any x0 20000 w r0.1 r0.2 (by omega) (by omega)
  rw [ht] at hw0
  have HW0 := hid_mk hw0
  have hw2 := fun w => within_any x2 ((n : Int) + 1) w r2.1 r2.2 (by omega) (by omega)
  rw [hA] at hw2
  have HW2 := hid_mk hw2
  have hw3 := fun w => within_any x3 ((n : Int) + 1) w r3.1 r3.2 (by omega) (by omega)
  rw [hB] at hw3
  have HW3 := hid_mk hw3
  have HFi := hid_mk (filled_any n (by omega) (by omega) hT hL)
  have HT := hid_mk hT
  have n1 : (n : Int) ≤ 20000 := by omega
  have n0 : (0 : Int) ≤ (n : Int) := by omega
  have a1 : (A : Int) ≤ (n : Int) := by omega
  have b1 : (B : Int) ≤ (n : Int) := by omega
  have HA2 := hid_mk hA2
  have HB2 := hid_mk hB2
  have HN2 : Hid (n ≤ 20000) := by show n ≤ 20000; omega
  have t1 : (t : Int) < 20000 := by omega
  clear hw0 hw2 hw3 hT hL r0 r2 r3 ht hA hB hA2 hB2 ht2
  go_enter Tryd.func3, Tryd.ntmps3
  go_wp2_with (go_at_call 7; refine calls_same (HW0.out _) ?_)
  refine HFi.out.mono ?_
  rintro e w1 ⟨m, hi, S, rfl, hm, _, ho⟩
  have HM := hid_mk hm
  have HO := hid_mk ho
  clear hm ho HFi
  go_wp2_with fail
  refine (alive_any w1 (HT.out.kept HO.out (.inr (Nat.le_refl _)))).mono ?_
  rintro e w2 ⟨rfl, ho⟩
  have HM2 := hid_mk (HM.out.quiet ho)
  have HO2 := hid_mk (HO.out.trans ho)
  clear ho HM HO
  by_cases hab : A ≤ B
  · have ab1 : (A : Int) ≤ (B : Int) := by omega
    have HAB := hid_mk hab
    clear hab
    obtain ⟨c1, e1⟩ : ∃ c, cntR S 0 A = c := ⟨_, rfl⟩
    obtain ⟨c2, e2⟩ : ∃ c, cntR S A B = c := ⟨_, rfl⟩
    obtain ⟨c3, e3⟩ : ∃ c, cntR S B n = c := ⟨_, rfl⟩
    have l1 := cntR_le S 0 A
    have l2 := cntR_le S A B
    have l3 := cntR_le S B n
    have hsum : c1 + c2 + c3 = cnt S n := by
      have q1 := cntR_split S A B HAB.out
      have q2 := cntR_split S B n HB2.out
      rw [cntR_zero] at e1
      omega
    have hbn := HB2.out
    have han := HA2.out
    have hn2 := HN2.out
    have k1 : (c1 : Int) ≤ 20000 := by omega
    have k2 : (c2 : Int) ≤ 20000 := by omega
    have k3 : (c3 : Int) ≤ 20000 := by omega
    have hne : ((c1 : Int) + c2 + c3 != ((c1 + c2 + c3 : Nat) : Int)) = false := by simp
    have hba : ((B : Int) - A != ((B - A : Nat) : Int)) = false := by
      have : ((B - A : Nat) : Int) = (B : Int) - A := by omega
      rw [this]; simp
    have hba' : (((B - A : Nat) : Int) != (B : Int) - A) = false := by
      have : ((B - A : Nat) : Int) = (B : Int) - A := by omega
      rw [this]; simp
    have hc1 : ((c1 : Int) != c1) = false := by simp
    have hc3 : ((c3 : Int) != c3) = false := by simp
    have hend : (((c1 + c3 : Nat) : Int) == (c1 : Int) + c3) = true := by simp
    obtain ⟨S2, hS2⟩ : ∃ S2, fill S A B true = S2 := ⟨_, rfl⟩
    obtain ⟨S3, hS3⟩ : ∃ S3, fill S2 A B false = S3 := ⟨_, rfl⟩
    have HE1 := hid_mk e1
    have HE2 := hid_mk e2
    have HE3 := hid_mk e3
    have HSum := hid_mk hsum
    have f1 : Hid (cntR S2 A B = B - A) := by show cntR S2 A B = B - A; rw [← hS2]; exact fill_cnt_in S A B HAB.out
    have f2 : Hid (cntR S2 0 A = c1) := by show cntR S2 0 A = c1; rw [← hS2, fill_cnt_low]; exact e1
    have f3 : Hid (cntR S2 B n = c3) := by show cntR S2 B n = c3; rw [← hS2, fill_cnt_high]; exact e3
    have g1 : Hid (cntR S3 A B = 0) := by show cntR S3 A B = 0; rw [← hS3]; exact fill_cnt_out S2 A B
    have g2 : Hid (cnt S3 n = c1 + c3) := by
      show cnt S3 n = c1 + c3
      have q1 := cntR_split S3 A B HAB.out
      have q2 := cntR_split S3 B n HB2.out
      have q3 : cntR S3 0 A = c1 := by rw [← hS3, fill_cnt_low]; exact f2.out
      have q4 : cntR S3 B n = c3 := by rw [← hS3, fill_cnt_high]; exact f3.out
      rw [cntR_zero] at q3
      have q5 := g1.out
      omega
    have g3 : Hid (nxr S3 n A = nxr S3 n B) := by show nxr S3 n A = nxr S3 n B; rw [← hS3]; exact fill_nx S2 A B n HAB.out HB2.out
    have HS2 := hid_mk hS2
    have HS3 := hid_mk hS3
    clear e1 e2 e3 l1 l2 l3 hsum hS2 hS3 hbn han hn2
    go_wp2_with (first | (go_at_call_of 7 (Value.int IntKind.i64 x2); refine calls_same (HW2.out _) ?_) | (go_at_call_of 7 (Value.int IntKind.i64 x3); refine calls_same (HW3.out _) ?_))
    refine (count_nat HM2.out 0 A c1 (by omega) HA2.out HE1.out).mono ?_
    rintro e w3 ⟨rfl, hm3, ho3⟩
    have HM3 := hid_mk hm3
    have HO3 := hid_mk (HO2.out.trans ho3)
    clear hm3 ho3 HM2 HO2
    go_wp2_with fail
    refine (count_nat HM3.out A B c2 (by have := HA2.out; have := HN2.out; omega) HB2.out HE2.out).mono ?_
    rintro e w4 ⟨rfl, hm4, ho4⟩
    have HM4 := hid_mk hm4
    have HO4 := hid_mk (HO3.out.trans ho4)
    clear hm4 ho4 HM3 HO3
    go_wp2_with fail
    refine (count_nat HM4.out B n c3 (by have := HB2.out; have := HN2.out; omega) (Nat.le_refl _) HE3.out).mono ?_
    rintro e w5 ⟨rfl, hm5, ho5⟩
    have HM5 := hid_mk hm5
    have HO5 := hid_mk (HO4.out.trans ho5)
    clear hm5 ho5 HM4 HO4
    go_wp2_with fail
    have hct := count_any HM5.out
    rw [← HSum.out] at hct
    refine hct.mono ?_
    rintro e w6 ⟨rfl, ho6⟩
    have HM6 := hid_mk (HM5.out.quiet ho6)
    have HO6 := hid_mk (HO5.out.trans ho6)
    clear ho6 hct HM5 HO5
    go_wp2_with fail
    have hsr := setRange_yes HM6.out A B HAB.out HB2.out
    rw [HS2.out] at hsr
    refine hsr.mono ?_
    rintro e w7 ⟨rfl, hm7, ho7⟩
    have HM7 := hid_mk hm7
    have HO7 : Hid (Out 0 0 w w7) := HO6.out.past ho7 (Nat.le_refl _)
    clear hm7 ho7 hsr HM6 HO6
    go_wp2_with fail
    refine (count_nat HM7.out A B (B - A) (by have := HA2.out; have := HN2.out; omega) HB2.out f1.out).mono ?_
    rintro e w8 ⟨rfl, hm8, ho8⟩
    have HM8 := hid_mk hm8
    have HO8 := hid_mk (HO7.out.trans ho8)
    clear hm8 ho8 HM7 HO7
    go_wp2_with fail
    refine (count_nat HM8.out 0 A c1 (by omega) HA2.out f2.out).mono ?_
    rintro e w9 ⟨rfl, hm9, ho9⟩
    have HM9 := hid_mk hm9
    have HO9 := hid_mk (HO8.out.trans ho9)
    clear hm9 ho9 HM8 HO8
    go_wp2_with fail
    refine (count_nat HM9.out B n c3 (by have := HB2.out; have := HN2.out; omega) (Nat.le_refl _) f3.out).mono ?_
    rintro e wA ⟨rfl, hmA, hoA⟩
    have HMA := hid_mk hmA
    have HOA := hid_mk (HO9.out.trans hoA)
    clear hmA hoA HM9 HO9
    go_wp2_with fail
    have hcr := clearRange_yes HMA.out A B HAB.out HB2.out
    rw [HS3.out] at hcr
    refine hcr.mono ?_
    rintro e wB ⟨rfl, hmB, hoB⟩
    have HMB := hid_mk hmB
    have HOB : Hid (Out 0 0 w wB) := HOA.out.past hoB (Nat.le_refl _)
    clear hmB hoB hcr HMA HOA
    go_wp2_with fail
    refine (count_nat HMB.out A B 0 (by have := HA2.out; have := HN2.out; omega) HB2.out g1.out).mono ?_
    rintro e wC ⟨rfl, hmC, hoC⟩
    have HMC := hid_mk hmC
    have HOC := hid_mk (HOB.out.trans hoC)
    clear hmC hoC HMB HOB
    go_wp2_with fail
    have hct := count_any HMC.out
    rw [g2.out] at hct
    refine hct.mono ?_
    rintro e wD ⟨rfl, hoD⟩
    have HMD := hid_mk (HMC.out.quiet hoD)
    have HOD := hid_mk (HOC.out.trans hoD)
    clear hoD hct HMC HOC
    go_wp2_with fail
    have hx := next_any HMD.out A
    rw [Int.toNat_natCast, g3.out] at hx
    refine hx.mono ?_
    rintro e wE ⟨rfl, hoE⟩
    have HME := hid_mk (HMD.out.quiet hoE)
    have HOE := hid_mk (HOD.out.trans hoE)
    clear hoE hx HMD HOD
    go_wp2_with fail
    have hx := next_any HME.out B
    rw [Int.toNat_natCast] at hx
    refine hx.mono ?_
    rintro e wF ⟨rfl, hoF⟩
    have HOF := hid_mk (HOE.out.trans hoF)
    clear hoF hx HME HOE
    have heq : (nxr S3 n B == nxr S3 n B) = true := by simp
    go_wp2
    go_ret
    exact ⟨rfl, HOF.out⟩
  · have ab1 : (B : Int) < (A : Int) := by omega
    have HR : Hid (inR n A B = false) := by show inR n A B = false; simp [inR]; omega
    have HC : Hid (cntR S A B = 0) := cntR_nil _ _ _ (by omega)
    clear hab
    go_wp2_with (first | (go_at_call_of 7 (Value.int IntKind.i64 x2); refine calls_same (HW2.out _) ?_) | (go_at_call_of 7 (Value.int IntKind.i64 x3); refine calls_same (HW3.out _) ?_))
    refine (count_nat HM2.out A B 0 (by have := HA2.out; have := HN2.out; omega) HB2.out HC.out).mono ?_
    rintro e w3 ⟨rfl, hm3, ho3⟩
    have HM3 := hid_mk hm3
    have HO3 := hid_mk (HO2.out.trans ho3)
    clear hm3 ho3 HM2 HO2
    go_wp2_with fail
    refine (setRange_no HM3.out A B HR.out).mono ?_
    rintro e w4 ⟨rfl, ho4⟩
    have HM4 := hid_mk (HM3.out.quiet ho4)
    have HO4 := hid_mk (HO3.out.trans ho4)
    clear ho4 HM3 HO3
    go_wp2_with fail
    refine (clearRange_no HM4.out A B HR.out).mono ?_
    rintro e w5 ⟨rfl, ho5⟩
    have HO5 := hid_mk (HO4.out.trans ho5)
    clear ho5 HM4 HO4
    go_wp2
    go_ret
    exact ⟨rfl, HO5.out⟩
theorem walk {H : Type} {enc : TypeId × Value → H} (x0 : Int) (w0 : (Lit.int .i64 x0).wf = true) {W : World} {fuel : Nat} {v : Value} {x : DataW H × List MemPlace} (h : DataW.trod enc Tryd.prog W 0 (fun _ => true) true fuel 22 v.cells.toList = some x) (hv : ∃ a len cap, v = .slice a len cap) (x2 : Int) (w2 : (Lit.int .i64 x2).wf = true) (x3 : Int) (w3 : (Lit.int .i64 x3).wf = true) (hT : Tab W) :
    Calls Tryd.prog 3 #[.int .i64 x0, v, .int .i64 x2, .int .i64 x3] W fun e w' => e = .returned (.bool true) ∧ Below W.heap.size W w' := by
  obtain ⟨len, q, hL⟩ := open_nums h hv
  have g1 := wth_ge x0 20000 (by omega)
  have g2 := wth_lt x0 20000 (by omega)
  obtain ⟨t, ht⟩ := Int.eq_ofNat_of_zero_le g1
  have g3 := wth_ge x2 (((1 + t : Nat) : Int) + 1) (by omega)
  have g4 := wth_lt x2 (((1 + t : Nat) : Int) + 1) (by omega)
  obtain ⟨A, hA⟩ := Int.eq_ofNat_of_zero_le g3
  have g5 := wth_ge x3 (((1 + t : Nat) : Int) + 1) (by omega)
  have g6 := wth_lt x3 (((1 + t : Nat) : Int) + 1) (by omega)
  obtain ⟨B, hB⟩ := Int.eq_ofNat_of_zero_le g5
  exact (key x0 x2 x3 t (1 + t) A B hT hL ht (by omega) hA hB (by omega) (by omega) (by omega) (i64_bounds w0) (i64_bounds w2) (i64_bounds w3)).mono fun e w' ⟨h1, h2⟩ => ⟨h1, h2.all⟩

set_option maxRecDepth 100000 in
theorem lifted (os : Os) (started : os.Started) (H : Type) (enc : TypeId × Value → H) :
    ReturnsInHanded {} Tryd.checked os 3 .any (fun w args => (Rows.bitmapPartsSpec.pre enc Tryd.prog Tryd.f3 [] false w args ∧ laidMetH Tryd.prog laidL w) ∧ sizedMet enc Tryd.prog Tryd.f3 (OpenSpec.ofChange Rows.bitmapPartsSpec) false w args)
      (Rows.bitmapPartsSpec.post enc Tryd.prog Tryd.f3 false true false false) := by
  refine returnsInHanded_of_change_and (C := Tryd.checked) (X := fun w _ => laidMetH Tryd.prog laidL w) (fun _ _ _ hh h => h.of_heap hh) own started (by kernel_rfl) Tryd.func3
    (ChangeSpec.witness_shaped (enc := enc) (C := Tryd.checked) (os := os) (X := fun w _ => laidMetH Tryd.prog laidL w) false (World.doorLaid Tryd.prog 400 os) #[.int .i64 0, .slice none 0 0, .int .i64 0, .int .i64 0] 8 rfl (World.shaped_of_RefB (by kernel_rfl) (by kernel_rfl)) (by kernel_rfl) (by kernel_rfl) (by kernel_rfl) (door_met os _)) ?_
  intro W base args ds gs before hval0 hW _ _ hL _
  have hval : ∀ (j : Nat) t v, Tryd.f3.params[j]? = some t → args[j]? = some v → Value.okWide Tryd.prog W .any base t v := hval0
  have hW' := hW
  obtain ⟨p, q, hA0, hV, rfl, hfz, hnd⟩ := hW
  have hA : DataW.TrodAll enc Tryd.prog W 0 (fun _ => true) true Tryd.f3.params.toList args.toList ds p := hA0
  have hT := tab_of_laid hL
  rw [Tryd.params3] at hA hval
  obtain ⟨v0, vs0, d0, ds0, p0, q0, hargs, rfl, rfl, h0, r0⟩ := trodAll_cons hA
  obtain ⟨v1, vs1, d1, ds1, p1, q1, rfl, rfl, rfl, h1, r1⟩ := trodAll_cons r0
  obtain ⟨v2, vs2, d2, ds2, p2, q2, rfl, rfl, rfl, h2, r2⟩ := trodAll_cons r1
  obtain ⟨v3, vs3, d3, ds3, p3, q3, rfl, rfl, rfl, h3, r3⟩ := trodAll_cons r2
  obtain ⟨rfl, rfl, rfl⟩ := trodAll_nil r3
  obtain rfl : args = #[v0, v1, v2, v3] := by cases args; simp_all
  obtain ⟨rfl, rfl⟩ := trodVars_none hV
  have hlt0 : ∀ x ∈ p0, x.block < W.heap.size := fun x hx => by simpa using hW'.lt x (by simp [hx])
  have h0k := h0
  have hlt1 : ∀ x ∈ p1, x.block < W.heap.size := fun x hx => by simpa using hW'.lt x (by simp [hx])
  have h1k := h1
  have hlt2 : ∀ x ∈ p2, x.block < W.heap.size := fun x hx => by simpa using hW'.lt x (by simp [hx])
  have h2k := h2
  have hlt3 : ∀ x ∈ p3, x.block < W.heap.size := fun x hx => by simpa using hW'.lt x (by simp [hx])
  have h3k := h3
  obtain ⟨a0, hv0, _, _, w0⟩ := open_int Tryd.underlying3 (hval 0 3 v0 rfl rfl) h0
  obtain ⟨a1, len1, cap1, hv1⟩ := okWide_slice Tryd.underlying22 (hval 1 22 v1 rfl rfl)
  obtain ⟨fuel1, hf1⟩ := h1
  obtain ⟨a2, hv2, _, _, w2⟩ := open_int Tryd.underlying3 (hval 2 3 v2 rfl rfl) h2
  obtain ⟨a3, hv3, _, _, w3⟩ := open_int Tryd.underlying3 (hval 3 3 v3 rfl rfl) h3
  clear hA0 hval0
  subst hv0
  subst hv2
  subst hv3
  refine (walk a0 w0 hf1 ⟨a1, len1, cap1, hv1⟩ a2 w2 a3 w3 hT).mono fun e W' ⟨he, hg⟩ => ?_
  subst he
  exact ⟨_, rfl, _, _, _, [], _, [], hW', (trodAll_cons_mk (shut_bool Tryd.underlying4 _) trodAll_mk0), (trodAll_cons_mk (Below.trod laid_out (by kernel_rfl) (of_decide_eq_true (by kernel_rfl)) h0k hg hlt0) (trodAll_cons_mk (Below.trod laid_out (by kernel_rfl) (of_decide_eq_true (by kernel_rfl)) h1k hg hlt1) (trodAll_cons_mk (Below.trod laid_out (by kernel_rfl) (of_decide_eq_true (by kernel_rfl)) h2k hg hlt2) (trodAll_cons_mk (Below.trod laid_out (by kernel_rfl) (of_decide_eq_true (by kernel_rfl)) h3k hg hlt3) trodAll_mk0)))), rfl, hg.frame _, fun h => by cases h⟩

theorem over : Rows.BitmapPartsSaid :=
  OpenClaim.holds_of_wide 3 Tryd.f3 rfl rfl rfl rfl rfl rfl rfl ⟨rfl, rfl, rfl, rfl, rfl⟩ rfl rfl rfl rfl rfl (by kernel_rfl) Tryd.func3 (by kernel_rfl)
    (of_decide_eq_true (by kernel_rfl)) (by unfold Func.isWrapper; first | (rw [if_pos (by decide +kernel)]; kernel_rfl) | (rw [if_neg (by decide +kernel)]; exact ⟨rfl, rfl⟩))
    (fun os started H enc _ => lifted os started H enc)

/-- ████ THE STATEMENT: THE TIED CARD ████ -/
theorem proved : Rows.BitmapPartsCardSaid :=
  Claim7.holds_tied_plain_at .later [] [.data] true (true, "1b3c0876e991e43fe6dfc5f29e841074561da3120470ae124b27c0a000ab4120") false
    over (fun _ h => by cases h) (by kernel_rfl) (fun _ h => by cases h) bitmapParts_row_tie rfl ⟨rfl, rfl⟩ (by kernel_rfl) rfl
    (fun f fn hf hfn => by
      obtain rfl : f = 3 := Option.some.inj ((show Tryd.prog.funcNamed "hearth/hearthlaw3.BitmapParts" = some 3 by kernel_rfl).symm.trans hf) |>.symm
      obtain rfl : fn = Tryd.f3 := (Option.some.inj (Tryd.func3.symm.trans hfn)).symm
      exact ⟨by kernel_rfl, fun j t ht => by
        rw [Tryd.params3] at ht
        have hm : t ∈ [3, 22, 3, 3] := by simpa using Array.mem_of_getElem? ht
        have hall : ([3, 22, 3, 3].all fun u => !Tryd.prog.wantsStandIn u) = true := by kernel_rfl
        exact (show Tryd.prog.wantsStandIn t = false by simpa using List.all_eq_true.1 hall t hm)⟩)
    (by kernel_rfl)
#print axioms proved
end Go.Proofs.YtnkobcldagajeabDoor.bitmapParts
