/- BitmapGaps: the walk by contracts, then the row, then its card. -/
import Derived.Test.YtnkobcldagajeabDoorCards
import Derived.Test.YtnkobcldagajeabDoorLt
import Derived.Test.YtnkobcldagajeabDoorMb
namespace Go.Proofs.YtnkobcldagajeabDoor.bitmapGaps
open Go.ChangeShapes Go.WideShapes Go.ChangeAt Go.RowKit Go.Deep
set_option linter.unusedVariables false
set_option linter.unusedSimpArgs false

/-- what Gap has told -/
theorem gap_facts {S : Nat → Bool} {n A k : Nat} (hk : 1 ≤ k) (hA : A ≤ n) :
    (nxr (runB S n k) n A = -1 ∧ ∀ i, A ≤ i → i + k ≤ n → 0 < cntR S i (i + k)) ∨ ∃ g : Nat, nxr (runB S n k) n A = g ∧ A ≤ g ∧ g + k ≤ n ∧ cntR S g (g + k) = 0 ∧ ∀ i, A ≤ i → i < g → 0 < cntR S i (i + k) := by
  by_cases h : nx (runB S n k) n A < n
  · right
    have h1 := nx_in (runB S n k) n A h
    simp [runB] at h1
    refine ⟨nx (runB S n k) n A, by unfold nxr; rw [if_pos h], nx_ge _ _ _ hA, h1.1, h1.2, fun i i1 i2 => ?_⟩
    have h2 := nx_out (runB S n k) n A i i1 i2
    by_cases hz : cntR S i (i + k) = 0
    · have h3 : i + k ≤ n := by omega
      simp [runB, h3, hz] at h2
    · omega
  · left
    refine ⟨by unfold nxr; rw [if_neg h], fun i i1 i2 => ?_⟩
    have h4 := nx_le (runB S n k) n A
    have h2 := nx_out (runB S n k) n A i i1 (by omega)
    by_cases hz : cntR S i (i + k) = 0
    · simp [runB, i2, hz] at h2
    · omega
theorem gap_over {S : Nat → Bool} {n A k : Nat} (h : n < k) : nxr (runB S n k) n A = -1 := by
  unfold nxr
  by_cases hz : nx (runB S n k) n A < n
  · have h1 := nx_in (runB S n k) n A hz
    simp [runB] at h1
    omega
  · rw [if_neg hz]
set_option maxRecDepth 100000 in
set_option maxHeartbeats 8000000 in
theorem key {v : Value} {len : Nat} {q : Nat → Int} (x0 x2 x3 : Int) (t n A s k : Nat) {w : World} (hT : Tab w) (hL : ListAt w v len q)
    (ht : wth x0 3000 = t) (hn : 1 + (t : Int) = n) (hA : wth x2 (n : Int) = A) (hs : wth x3 70 = s) (hk : 1 + (s : Int) = k) (ht2 : t < 3000) (hA2 : A < n) (hs2 : s < 70)
    (r0 : -9223372036854775808 ≤ x0 ∧ x0 ≤ 9223372036854775807) (r2 : -9223372036854775808 ≤ x2 ∧ x2 ≤ 9223372036854775807) (r3 : -9223372036854775808 ≤ x3 ∧ x3 ≤ 9223372036854775807) :
    Calls Tryd.prog 5 #[.int .i64 x0, v, .int .i64 x2, .int .i64 x3] w fun e w' => e = .returned (.bool true) ∧ Out 0 0 w w' := by
  have hw0 := fun w => within_any x0 3000 w r0.1 r0.2 (by omega) (by omega)
  rw [ht] at hw0
  have HW0 := hid_mk hw0
  have hw2 := fun w => within_any x2 (n : Int) w r2.1 r2.2 (by omega) (by omega)
  rw [hA] at hw2
  have HW2 := hid_mk hw2
  have hw3 := fun w => within_any x3 70 w r3.1 r3.2 (by omega) (by omega)
  rw [hs] at hw3
  have HW3 := hid_mk hw3
  have HFi := hid_mk (filled_any n (by omega) (by omega) hT hL)
  have HT := hid_mk hT
  have n1 : (n : Int) ≤ 3000 := by omega
  have n0 : (0 : Int) ≤ (n : Int) := by omega
  have a1 : (A : Int) < (n : Int) := by omega
  have t1 : (t : Int) < 3000 := by omega
  have s1 : (s : Int) < 70 := by omega
  have k1 : (k : Int) ≤ 70 := by omega
  have k0 : (1 : Int) ≤ (k : Int) := by omega
  have HA2 := hid_mk hA2
  have HN2 : Hid (n ≤ 3000 ∧ k ≤ 70 ∧ 1 ≤ k) := by show _ ∧ _ ∧ _; omega
  clear hw0 hw2 hw3 hT hL r0 r2 r3 ht hA hs ht2 hA2 hs2
  go_enter Tryd.func5, Tryd.ntmps5
  go_wp2_with (go_at_call 7; refine calls_same (HW0.out _) ?_)
  refine HFi.out.mono ?_
  rintro e w1 ⟨m, hi, S, rfl, hm, _, ho⟩
  have HM := hid_mk hm
  have HO := hid_mk ho
  clear hm ho HFi
  go_wp2_with fail
  refine (alive_any w1 (HT.out.kept HO.out (.inr (Nat.le_refl _)))).mono ?_
  rintro e w2 ⟨rfl, ho⟩
  have HM2 := hid_mk (HM.out.quiet ho)
  have HO2 := hid_mk (HO.out.trans ho)
  clear ho HM HO
  have hgp := gap_any HM2.out A k
  rw [show gapV S n A k = nxr (runB S n k) n A from by unfold gapV; rw [if_neg (by omega), Int.toNat_natCast, Int.toNat_natCast]] at hgp
  -- the end: two more Gaps
  have hE1 : ∀ w' (h : MapAt w' w.heap.size hi m n S), Calls Tryd.prog 18 #[.pointer (some ⟨m, 0, none⟩), .int .i64 A, .int .i64 0] w' fun e w2 => e = .returned (.int .i64 (-1)) ∧ Out 0 0 w' w2 := fun w' h => by
    have := gap_any h A 0
    rw [show gapV S n A 0 = -1 from by unfold gapV; rw [if_pos (by omega)]] at this
    exact this
  have hE2 : ∀ w' (h : MapAt w' w.heap.size hi m n S), Calls Tryd.prog 18 #[.pointer (some ⟨m, 0, none⟩), .int .i64 A, .int .i64 ((n : Int) + 1)] w' fun e w2 => e = .returned (.int .i64 (-1)) ∧ Out 0 0 w' w2 := fun w' h => by
    have := gap_any h A ((n : Int) + 1)
    rw [show gapV S n A ((n : Int) + 1) = -1 from by unfold gapV; rw [if_neg (by omega), Int.toNat_natCast]; exact gap_over (by omega)] at this
    exact this
  have HE1 := hid_mk hE1
  have HE2 := hid_mk hE2
  have hcn : ∀ w' (h : MapAt w' w.heap.size hi m n S) (i c : Nat), i ≤ 1000000 → i + k ≤ n → cntR S i (i + k) = c → Calls Tryd.prog 10 #[.pointer (some ⟨m, 0, none⟩), .int .i64 i, .int .i64 ((i : Int) + k)] w' fun e w2 => e = .returned (.int .i64 c) ∧ MapAt w2 w.heap.size hi m n S ∧ Out 0 0 w' w2 := fun w' h i c h1 h2 h3 => by
    have := count_nat h i (i + k) c h1 h2 h3
    rw [show ((i + k : Nat) : Int) = (i : Int) + k from by omega] at this
    exact this
  have HCN := hid_mk hcn
  clear hE1 hE2 hcn
  rcases gap_facts (S := S) (n := n) (A := A) (k := k) (by have := HN2.out; omega) (by have := HA2.out; omega) with ⟨g1, g2⟩ | ⟨g, g1, g2, g3, g4, g5⟩
  · rw [g1] at hgp
    have HGp := hid_mk hgp
    have HG2 := hid_mk g2
    clear g1 g2 hgp
    go_wp2_with (first | (go_at_call_of 7 (Value.int IntKind.i64 x2); refine calls_same (HW2.out _) ?_) | (go_at_call_of 7 (Value.int IntKind.i64 x3); refine calls_same (HW3.out _) ?_))
    refine HGp.out.mono ?_
    rintro e w3 ⟨rfl, ho3⟩
    have HM3 := hid_mk (HM2.out.quiet ho3)
    have HO3 := hid_mk (HO2.out.trans ho3)
    clear ho3 HGp HM2 HO2
    go_wp2_with fail
    go_loopw [15] (fun x wr => ∃ i : Nat, A ≤ i ∧ x = .int .i64 i ∧ (i = A ∨ i + k ≤ n + 1) ∧ MapAt wr w.heap.size hi m n S ∧ Out 0 0 w wr) (fun x _ => n + 1 - (intOf x).toNat)
    case atStart => exact ⟨A, Nat.le_refl _, rfl, .inl rfl, HM3.out, HO3.out⟩
    case round =>
      clear HM3 HO3
      obtain ⟨i, i1, rfl, i2, hm4, ho4⟩ := hrel
      have HM4 := hid_mk hm4
      have HO4 := hid_mk ho4
      have HI2 := hid_mk i2
      have i3 : (A : Int) ≤ (i : Int) := by omega
      have i4 : (i : Int) ≤ 3001 := by have := HN2.out; have := HA2.out; omega
      clear hm4 ho4 i2
      by_cases hlt : (i : Int) < (n : Int) - k + 1
      · obtain ⟨c, hc⟩ : ∃ c, cntR S i (i + k) = c := ⟨_, rfl⟩
        have hc0 : 0 < c := by rw [← hc]; exact HG2.out i i1 (by omega)
        have hce : ((c : Int) == 0) = false := by rw [beq_eq_false_iff_ne]; omega
        have HC := hid_mk (HCN.out wr HM4.out i c (by have := HN2.out; omega) (by omega) hc)
        clear hc hc0
        go_wp2_with (go_at_call 10; refine HC.out.mono ?_; rintro e w5 ⟨rfl, hm5, ho5⟩; have HM5 := hid_mk hm5; have HO5 := hid_mk (HO4.out.trans ho5); clear hm5 ho5)
        go_roundw
        case rel => exact ⟨i + 1, by omega, by go_num, .inr (by omega), HM5.out, HO5.out⟩
        case measure => have := HN2.out; simp [intOf]; omega
      · have hge : (n : Int) - k + 1 ≤ (i : Int) := by omega
        clear hlt
        go_wp2_with fail
        refine (HE1.out wr HM4.out).mono ?_
        rintro e w5 ⟨rfl, ho5⟩
        have HM5 := hid_mk (HM4.out.quiet ho5)
        have HO5 := hid_mk (HO4.out.trans ho5)
        clear ho5 HM4 HO4
        go_wp2_with fail
        refine (HE2.out w5 HM5.out).mono ?_
        rintro e w6 ⟨rfl, ho6⟩
        have HO6 := hid_mk (HO5.out.trans ho6)
        clear ho6 HM5 HO5
        go_wp2
        go_ret
        exact ⟨rfl, HO6.out⟩
  · rw [g1] at hgp
    have HGp := hid_mk hgp
    have HG5 := hid_mk g5
    have gk : (g : Int) + k ≤ (n : Int) := by omega
    have gA : (A : Int) ≤ (g : Int) := by omega
    have g0 : (0 : Int) ≤ (g : Int) := by omega
    have gl : (g : Int) ≤ 3000 := by omega
    have hC0 : ∀ w' (h : MapAt w' w.heap.size hi m n S), Calls Tryd.prog 10 #[.pointer (some ⟨m, 0, none⟩), .int .i64 g, .int .i64 ((g : Int) + k)] w' fun e w2 => e = .returned (.int .i64 0) ∧ MapAt w2 w.heap.size hi m n S ∧ Out 0 0 w' w2 := fun w' h => HCN.out w' h g 0 (by have := HN2.out; omega) g3 g4
    have HC0 := hid_mk hC0
    clear hC0
    have d1 : decide ((0 : Int) ≤ (g : Int)) = true := by simp
    have d2 : decide ((g : Int) < (A : Int)) = false := by first | (simp; done) | (simp; omega)
    have d6 : decide (g < A) = false := by first | (simp; done) | (simp; omega)
    have d7 : ¬ g < A := by omega
    have d3 : decide ((n : Int) < (g : Int) + (k : Int)) = false := by first | (simp; done) | (simp; omega)
    have d4 : decide ((g : Int) < -1) = false := by first | (simp; done) | (simp; omega)
    have d5 : decide ((g : Int) < 0) = false := by simp
    clear g1 g2 g5 hgp g3 g4
    go_wp2_with (first | (go_at_call_of 7 (Value.int IntKind.i64 x2); refine calls_same (HW2.out _) ?_) | (go_at_call_of 7 (Value.int IntKind.i64 x3); refine calls_same (HW3.out _) ?_))
    refine HGp.out.mono ?_
    rintro e w3 ⟨rfl, ho3⟩
    have HM3 := hid_mk (HM2.out.quiet ho3)
    have HO3 := hid_mk (HO2.out.trans ho3)
    clear ho3 HGp HM2 HO2
    go_wp2_with fail
    refine (HC0.out w3 HM3.out).mono ?_
    rintro e w4 ⟨rfl, hm4, ho4⟩
    have HM4 := hid_mk hm4
    have HO4 := hid_mk (HO3.out.trans ho4)
    clear hm4 ho4 HM3 HO3
    go_wp2_with fail
    go_loopw [15] (fun x wr => ∃ i : Nat, A ≤ i ∧ i ≤ g ∧ x = .int .i64 i ∧ MapAt wr w.heap.size hi m n S ∧ Out 0 0 w wr) (fun x _ => g - (intOf x).toNat)
    case atStart => exact ⟨A, Nat.le_refl _, by omega, rfl, HM4.out, HO4.out⟩
    case round =>
      clear HM4 HO4
      obtain ⟨i, i1, i2, rfl, hm4, ho4⟩ := hrel
      have HM4 := hid_mk hm4
      have HO4 := hid_mk ho4
      have i3 : (A : Int) ≤ (i : Int) := by omega
      have i4 : (i : Int) ≤ 3001 := by omega
      clear hm4 ho4
      by_cases hlt : (i : Int) < (g : Int)
      · obtain ⟨c, hc⟩ : ∃ c, cntR S i (i + k) = c := ⟨_, rfl⟩
        have hc0 : 0 < c := by rw [← hc]; exact HG5.out i i1 (by omega)
        have hce : ((c : Int) == 0) = false := by rw [beq_eq_false_iff_ne]; omega
        have HC := hid_mk (HCN.out wr HM4.out i c (by omega) (by omega) hc)
        clear hc hc0
        go_wp2_with (go_at_call 10; refine HC.out.mono ?_; rintro e w5 ⟨rfl, hm5, ho5⟩; have HM5 := hid_mk hm5; have HO5 := hid_mk (HO4.out.trans ho5); clear hm5 ho5)
        go_roundw
        case rel => exact ⟨i + 1, by omega, by omega, by go_num, HM5.out, HO5.out⟩
        case measure => simp [intOf]; omega
      · have hge : (g : Int) ≤ (i : Int) := by omega
        clear hlt
        go_wp2_with fail
        refine (HE1.out wr HM4.out).mono ?_
        rintro e w5 ⟨rfl, ho5⟩
        have HM5 := hid_mk (HM4.out.quiet ho5)
        have HO5 := hid_mk (HO4.out.trans ho5)
        clear ho5 HM4 HO4
        go_wp2_with fail
        refine (HE2.out w5 HM5.out).mono ?_
        rintro e w6 ⟨rfl, ho6⟩
        have HO6 := hid_mk (HO5.out.trans ho6)
        clear ho6 HM5 HO5
        go_wp2
        go_ret
        exact ⟨rfl, HO6.out⟩
theorem walk {H : Type} {enc : TypeId × Value → H} (x0 : Int) (w0 : (Lit.int .i64 x0).wf = true) {W : World} {fuel : Nat} {v : Value} {x : DataW H × List MemPlace} (h : DataW.trod enc Tryd.prog W 0 (fun _ => true) true fuel 22 v.cells.toList = some x) (hv : ∃ a len cap, v = .slice a len cap) (x2 : Int) (w2 : (Lit.int .i64 x2).wf = true) (x3 : Int) (w3 : (Lit.int .i64 x3).wf = true) (hT : Tab W) :
    Calls Tryd.prog 5 #[.int .i64 x0, v, .int .i64 x2, .int .i64 x3] W fun e w' => e = .returned (.bool true) ∧ Below W.heap.size W w' := by
  obtain ⟨len, q, hL⟩ := open_nums h hv
  have g1 := wth_ge x0 3000 (by omega)
  have g2 := wth_lt x0 3000 (by omega)
  obtain ⟨t, ht⟩ := Int.eq_ofNat_of_zero_le g1
  have g3 := wth_ge x2 ((1 + t : Nat) : Int) (by omega)
  have g4 := wth_lt x2 ((1 + t : Nat) : Int) (by omega)
  obtain ⟨A, hA⟩ := Int.eq_ofNat_of_zero_le g3
  have g5 := wth_ge x3 70 (by omega)
  have g6 := wth_lt x3 70 (by omega)
  obtain ⟨s, hs⟩ := Int.eq_ofNat_of_zero_le g5
  exact (key x0 x2 x3 t (1 + t) A s (1 + s) hT hL ht (by omega) hA hs (by omega) (by omega) (by omega) (by omega) (i64_bounds w0) (i64_bounds w2) (i64_bounds w3)).mono fun e w' ⟨h1, h2⟩ => ⟨h1, h2.all⟩

set_option maxRecDepth 100000 in
theorem lifted (os : Os) (started : os.Started) (H : Type) (enc : TypeId × Value → H) :
    ReturnsInHanded {} Tryd.checked os 5 .any (fun w args => (Rows.bitmapGapsSpec.pre enc Tryd.prog Tryd.f5 [] false w args ∧ laidMetH Tryd.prog laidL w) ∧ sizedMet enc Tryd.prog Tryd.f5 (OpenSpec.ofChange Rows.bitmapGapsSpec) false w args)
      (Rows.bitmapGapsSpec.post enc Tryd.prog Tryd.f5 false true false false) := by
  refine returnsInHanded_of_change_and (C := Tryd.checked) (X := fun w _ => laidMetH Tryd.prog laidL w) (fun _ _ _ hh h => h.of_heap hh) own started (by kernel_rfl) Tryd.func5
    (ChangeSpec.witness_shaped (enc := enc) (C := Tryd.checked) (os := os) (X := fun w _ => laidMetH Tryd.prog laidL w) false (World.doorLaid Tryd.prog 400 os) #[.int .i64 0, .slice none 0 0, .int .i64 0, .int .i64 0] 8 rfl (World.shaped_of_RefB (by kernel_rfl) (by kernel_rfl)) (by kernel_rfl) (by kernel_rfl) (by kernel_rfl) (door_met os _)) ?_
  intro W base args ds gs before hval0 hW _ _ hL _
  have hval : ∀ (j : Nat) t v, Tryd.f5.params[j]? = some t → args[j]? = some v → Value.okWide Tryd.prog W .any base t v := hval0
  have hW' := hW
  obtain ⟨p, q, hA0, hV, rfl, hfz, hnd⟩ := hW
  have hA : DataW.TrodAll enc Tryd.prog W 0 (fun _ => true) true Tryd.f5.params.toList args.toList ds p := hA0
  have hT := tab_of_laid hL
  rw [Tryd.params5] at hA hval
  obtain ⟨v0, vs0, d0, ds0, p0, q0, hargs, rfl, rfl, h0, r0⟩ := trodAll_cons hA
  obtain ⟨v1, vs1, d1, ds1, p1, q1, rfl, rfl, rfl, h1, r1⟩ := trodAll_cons r0
  obtain ⟨v2, vs2, d2, ds2, p2, q2, rfl, rfl, rfl, h2, r2⟩ := trodAll_cons r1
  obtain ⟨v3, vs3, d3, ds3, p3, q3, rfl, rfl, rfl, h3, r3⟩ := trodAll_cons r2
  obtain ⟨rfl, rfl, rfl⟩ := trodAll_nil r3
  obtain rfl : args = #[v0, v1, v2, v3] := by cases args; simp_all
  obtain ⟨rfl, rfl⟩ := trodVars_none hV
  have hlt0 : ∀ x ∈ p0, x.block < W.heap.size := fun x hx => by simpa using hW'.lt x (by simp [hx])
  have h0k := h0
  have hlt1 : ∀ x ∈ p1, x.block < W.heap.size := fun x hx => by simpa using hW'.lt x (by simp [hx])
  have h1k := h1
  have hlt2 : ∀ x ∈ p2, x.block < W.heap.size := fun x hx => by simpa using hW'.lt x (by simp [hx])
  have h2k := h2
  have hlt3 : ∀ x ∈ p3, x.block < W.heap.size := fun x hx => by simpa using hW'.lt x (by simp [hx])
  have h3k := h3
  obtain ⟨a0, hv0, _, _, w0⟩ := open_int Tryd.underlying3 (hval 0 3 v0 rfl rfl) h0
  obtain ⟨a1, len1, cap1, hv1⟩ := okWide_slice Tryd.underlying22 (hval 1 22 v1 rfl rfl)
  obtain ⟨fuel1, hf1⟩ := h1
  obtain ⟨a2, hv2, _, _, w2⟩ := open_int Tryd.underlying3 (hval 2 3 v2 rfl rfl) h2
  obtain ⟨a3, hv3, _, _, w3⟩ := open_int Tryd.underlying3 (hval 3 3 v3 rfl rfl) h3
  clear hA0 hval0
  subst hv0
  subst hv2
  subst hv3
  refine (walk a0 w0 hf1 ⟨a1, len1, cap1, hv1⟩ a2 w2 a3 w3 hT).mono fun e W' ⟨he, hg⟩ => ?_
  subst he
  exact ⟨_, rfl, _, _, _, [], _, [], hW', (trodAll_cons_mk (shut_bool Tryd.underlying4 _) trodAll_mk0), (trodAll_cons_mk (Below.trod laid_out (by kernel_rfl) (of_decide_eq_true (by kernel_rfl)) h0k hg hlt0) (trodAll_cons_mk (Below.trod laid_out (by kernel_rfl) (of_decide_eq_true (by kernel_rfl)) h1k hg hlt1) (trodAll_cons_mk (Below.trod laid_out (by kernel_rfl) (of_decide_eq_true (by kernel_rfl)) h2k hg hlt2) (trodAll_cons_mk (Below.trod laid_out (by kernel_rfl) (of_decide_eq_true (by kernel_rfl)) h3k hg hlt3) trodAll_mk0)))), rfl, hg.frame _, fun h => by cases h⟩

theorem over : Rows.BitmapGapsSaid :=
  OpenClaim.holds_of_wide 5 Tryd.f5 rfl rfl rfl rfl rfl rfl rfl ⟨rfl, rfl, rfl, rfl, rfl⟩ rfl rfl rfl rfl rfl (by kernel_rfl) Tryd.func5 (by kernel_rfl)
    (of_decide_eq_true (by kernel_rfl)) (by unfold Func.isWrapper; first | (rw [if_pos (by decide +kernel)]; kernel_rfl) | (rw [if_neg (by decide +kernel)]; exact ⟨rfl, rfl⟩))
    (fun os started H enc _ => lifted os started H enc)

/-- ████ THE STATEMENT: THE TIED CARD ████ -/
theorem proved : Rows.BitmapGapsCardSaid :=
  Claim7.holds_tied_plain_at .later [] [.data] true (true, "1b3c0876e991e43fe6dfc5f29e841074561da3120470ae124b27c0a000ab4120") false
    over (fun _ h => by cases h) (by kernel_rfl) (fun _ h => by cases h) bitmapGaps_row_tie rfl ⟨rfl, rfl⟩ (by kernel_rfl) rfl
    (fun f fn hf hfn => by
      obtain rfl : f = 5 := Option.some.inj ((show Tryd.prog.funcNamed "hearth/hearthlaw3.BitmapGaps" = some 5 by kernel_rfl).symm.trans hf) |>.symm
      obtain rfl : fn = Tryd.f5 := (Option.some.inj (Tryd.func5.symm.trans hfn)).symm
      exact ⟨by kernel_rfl, fun j t ht => by
        rw [Tryd.params5] at ht
        have hm : t ∈ [3, 22, 3, 3] := by simpa using Array.mem_of_getElem? ht
        have hall : ([3, 22, 3, 3].all fun u => !Tryd.prog.wantsStandIn u) = true := by kernel_rfl
        exact (show Tryd.prog.wantsStandIn t = false by simpa using List.all_eq_true.1 hall t hm)⟩)
    (by kernel_rfl)
#print axioms proved
end Go.Proofs.YtnkobcldagajeabDoor.bitmapGaps
