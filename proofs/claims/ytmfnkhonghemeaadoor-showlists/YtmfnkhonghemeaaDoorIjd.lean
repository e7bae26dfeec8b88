/- ShowLists: the walk -/
import Derived.Test.YtmfnkhonghemeaaDoorIjc
namespace Go.Proofs.YtmfnkhonghemeaaDoor
open Go.RowKit
set_option linter.unusedVariables false
set_option linter.unusedSimpArgs false

theorem null_any (w : World) : Calls Tryd.prog 6 #[] w fun e w' => e = .returned (.agg #[.int .i64 3, .int .i64 0]) ∧ Out 0 0 w w' := by
  go_enter Tryd.func6, Tryd.ntmps6
  go_wp2
  exact retVal_v Tryd.results6 rfl rfl (Bl.new w #[.int .i64 3, .int .i64 0] 28) ⟨rfl, (Out.refl _ _ _).alloc _⟩
set_option maxRecDepth 100000 in
set_option maxHeartbeats 4000000 in
theorem lists_at {W : World} {N : Nat} (hN : 1 ≤ N ∧ N ≤ 600) (hT : WT W) (h8 : 2 ≤ W.heap.size) :
    Calls Tryd.prog 3 #[.int .i64 (N : Int)] W fun e w' => e = .returned (.bool true) ∧ Out 0 0 W w' := by
  have HT := hid_mk hT
  have H8 := hid_mk h8
  have HA := hid_mk (alive_any hT.1)
  have HN := hid_mk hN
  have n0 : (1 : Int) ≤ (N : Int) := by omega
  have n1 : (N : Int) ≤ 600 := by omega
  clear hT h8 hN
  go_enter Tryd.func3, Tryd.ntmps3
  go_wp2_with (go_at_call 4; refine HA.out.mono ?_; rintro e w1 ⟨rfl, o1⟩; have HO1 := hid_mk o1; clear o1)
  refine wp_named (fun W1 hW1 => ?_)
  obtain ⟨A, hA⟩ : ∃ A, w1.heap.size = A := ⟨_, rfl⟩
  have hL0 : LSt W W1 W.heap.size A N 0 (fun x => x = A) (fun x => x = A + 1) (fun x => x = A + 1 + 1) none 0 none 0 none 0 := by
    have hs := HO1.out.size
    have o0 : Out 0 0 W W1 := by rw [hW1]; exact ((HO1.out.alloc _).alloc _).alloc _
    have k1 : Bl W1 A #[.slice none 0 0, .slice none 0 0] 26 := by rw [hW1, ← hA]; exact ((Bl.new w1 _ _).alloc _).alloc _
    have k2 : Bl W1 (A + 1) #[.slice none 0 0, .slice none 0 0] 26 := by
      rw [hW1, ← hA, ← size_alloc w1 (.cells #[.slice none 0 0, .slice none 0 0] 26)]; exact (Bl.new _ _ _).alloc _
    have k3 : Bl W1 (A + 1 + 1) #[.slice none 0 0, .slice none 0 0] 26 := by
      have := Bl.new ((w1.alloc (.cells #[.slice none 0 0, .slice none 0 0] 26)).alloc (.cells #[.slice none 0 0, .slice none 0 0] 26)) #[.slice none 0 0, .slice none 0 0] 26
      rw [size_alloc, size_alloc, hA] at this
      rw [hW1]; exact this
    exact ⟨⟨[], k1, ⟨rfl, .inl ⟨rfl, rfl⟩⟩, rfl, fun i F e => by simp at e, rfl, fun g e => by simp [Value.ownBlock] at e, fun x e => ⟨by omega, e ▸ k1.lt⟩⟩,
      ⟨[], k2, ⟨rfl, .inl ⟨rfl, rfl⟩⟩, rfl, fun i F e => by simp at e, rfl, fun g e => by simp [Value.ownBlock] at e, fun x e => ⟨by omega, e ▸ k2.lt⟩⟩,
      ⟨[], k3, ⟨rfl, .inl ⟨rfl, rfl⟩⟩, rfl, fun i F e => by simp at e, rfl, fun g e => by simp [Value.ownBlock] at e, fun x e => ⟨by omega, e ▸ k3.lt⟩⟩, fun x h1 h2 => by omega, fun x h1 h2 => by omega, fun x h1 h2 => by omega, o0⟩
  rw [hA]
  have HL0 := hid_mk hL0
  clear hW1 hL0 hA
  go_loopw [7, 8, 9, 10] (fun av bv cv iv wr => ∃ (i j : Nat) (SA SB SC : Nat → Prop) (ta1 : Option Addr) (c1 : Nat) (ta2 : Option Addr) (c2 : Nat) (ta3 : Option Addr) (c3 : Nat), iv = .int .i64 (i : Int) ∧ i = j + 1 ∧ j ≤ N ∧ av = .string (bS (40 :: bdy j)) ∧ bv = .string (bS (35 :: 48 :: 61 :: 40 :: bdy j)) ∧ cv = .string (bS (cL j)) ∧ LSt W wr W.heap.size A N j SA SB SC ta1 c1 ta2 c2 ta3 c3) (fun _ _ _ iv _ => N + 1 - (intOf iv).toNat)
  case atStart => exact ⟨1, 0, _, _, _, _, _, _, _, _, _, rfl, rfl, Nat.zero_le _, rfl, rfl, rfl, HL0.out⟩
  case round =>
    obtain ⟨i, j, SA, SB, SC, ta1, c1, ta2, c2, ta3, c3, rfl, hij, hj, rfl, rfl, rfl, hL⟩ := hrel
    have HIJ := hid_mk hij
    have HJ : Hid (j ≤ 600) := hid_mk (by have := HN.out; omega)
    have HL := hid_mk hL
    by_cases hjn : i ≤ N
    · have e0 : (1 : Int) ≤ (i : Int) := by omega
      have e1 : (i : Int) ≤ (N : Int) := by omega
      have hjN : j < N := by omega
      obtain ⟨d, hd⟩ : ∃ d : Int, ((i % 10 : Nat) : Int) = d := ⟨_, rfl⟩
      have d0 : 0 ≤ d := by omega
      have d1 : d < 10 := by omega
      have ht : (i : Int).tmod 10 = d := by rw [Int.tmod_eq_emod_of_nonneg (by omega)]; omega
      have hwd : IntKind.i64.wrap d = d := wrap_small d0 (by omega)
      have HDD := hid_mk hd
      have HJN := hid_mk hjN
      by_cases hiN : i < N
      · have e2 : ((i : Int) == (N : Int)) = false := by simp; omega
        have e3 : (i : Int) < (N : Int) := by omega
        obtain ⟨px, py, hpx⟩ : ∃ x y, nx N false (j + 1) = (x, y) := ⟨_, _, rfl⟩
        obtain ⟨qx, qy, hqx⟩ : ∃ x y, nx N true (j + 1) = (x, y) := ⟨_, _, rfl⟩
        have va : ((2 : Int), (i : Int) + 1) = (px, py) := by rw [← hpx]; unfold nx; rw [if_pos (by omega), hij]
        have vb : ((2 : Int), (i : Int) + 1) = (qx, qy) := by rw [← hqx]; unfold nx; rw [if_pos (by omega), hij]
        have HXA := hid_mk hpx
        have HXB := hid_mk hqx
        have HVA := hid_mk va
        have HVB := hid_mk vb
        clear hij hj hL hjN hd hpx hqx va vb
        go_wp2_with fail
        refine (ref_any _ _).mono ?_
        rintro e w3 ⟨rfl, o3⟩
        have HO3 := hid_mk o3
        clear o3
        go_wp2_with fail
        refine (ref_any _ _).mono ?_
        rintro e w4 ⟨rfl, o4⟩
        have HO4 := hid_mk o4
        clear o4
        go_wp2_with fail
        refine wp_named (fun W2 hW2 => ?_)
        have o2 : Out 0 0 wr W2 := by rw [hW2]; exact ((HO3.out.alloc _).trans HO4.out).alloc _
        have kY : Bl W2 w4.heap.size #[.int .i64 qx, .int .i64 qy] 28 := by
          rw [hW2, ← (Prod.mk.inj HVB.out).1, ← (Prod.mk.inj HVB.out).2]; exact Bl.new _ _ _
        have kX : Bl W2 w3.heap.size #[.int .i64 px, .int .i64 py] 28 := by
          rw [hW2, ← (Prod.mk.inj HVA.out).1, ← (Prod.mk.inj HVA.out).2]; exact ((Bl.new w3 _ _).kept HO4.out (.inr (Nat.zero_le _))).alloc _
        have hp : wr.heap.size ≤ w3.heap.size ∧ w3.heap.size < w4.heap.size := ⟨HO3.out.size, by have := HO4.out.size; rw [size_alloc] at this; omega⟩
        obtain ⟨p11, h11⟩ : ∃ p, w3.heap.size = p := ⟨_, rfl⟩
        obtain ⟨p12, h12⟩ : ∃ p, w4.heap.size = p := ⟨_, rfl⟩
        rw [h12] at kY hp
        rw [h11] at kX hp
        rw [h11, h12]
        clear hW2 h11 h12
        have HP := hid_mk hp
        obtain ⟨hN1, hN2, hN3, hAB, hAC, hBC, oW⟩ := HL.out
        have HB0 : Hid (W.heap.size ≤ W2.heap.size) := hid_mk (Nat.le_trans oW.size o2.size)
        have HD1 : Hid (∀ x, SA x → W.heap.size ≤ x ∧ x < wr.heap.size) := hid_mk (fun x h => hN1.dom x h)
        have HD2 : Hid (∀ x, SB x → W.heap.size ≤ x ∧ x < wr.heap.size) := hid_mk (fun x h => hN2.dom x h)
        have HD3 : Hid (∀ x, SC x → W.heap.size ≤ x ∧ x < wr.heap.size) := hid_mk (fun x h => hN3.dom x h)
        have HN1 := hid_mk (hN1.out o2)
        have HN2 := hid_mk (hN2.out o2)
        have HN3 := hid_mk (hN3.out o2)
        have HAP := hid_mk (And.intro hAB (And.intro hAC hBC))
        have HOW := hid_mk (oW.trans o2)
        have HV1 : Hid (flat (hdV 1 N false (j + 1)) = [.int .i64 1, .int .i64 d, .int .i64 px, .int .i64 py]) := hid_mk (by unfold hdV; rw [if_pos rfl, HXA.out, ← HDD.out, HIJ.out]; rfl)
        have HV2 : Hid (flat (hdV 1 N true (j + 1)) = [.int .i64 1, .int .i64 d, .int .i64 qx, .int .i64 qy]) := hid_mk (by unfold hdV; rw [if_pos rfl, HXB.out, ← HDD.out, HIJ.out]; rfl)
        have HV3 : Hid (flat (hdV 2 N false (j + 1)) = [.int .i64 px, .int .i64 py]) := hid_mk (by unfold hdV; rw [if_neg (by decide), HXA.out]; rfl)
        have HC1 : Hid (∀ F, (ndC5 1 (arV 1) j F).toArray = #[.int .i64 (i : Int), .int .i64 1, .slice none 0 0, .slice (some ⟨F, 0, none⟩) 2 2, .slice none 0 0]) := hid_mk (fun F => by unfold ndC5; rw [HIJ.out]; rfl)
        have HC2 : Hid (∀ F, (ndC5 2 (arV 2) j F).toArray = #[.int .i64 (i : Int), .int .i64 2, .slice none 0 0, .slice (some ⟨F, 0, none⟩) 1 1, .slice none 0 0]) := hid_mk (fun F => by unfold ndC5; rw [HIJ.out]; rfl)
        have HWS : Hid (wr.heap.size ≤ W2.heap.size) := hid_mk o2.size
        have HK := hid_mk (And.intro kX kY)
        have s0 := HN1.out.cell0
        have x0 := kX.cell (i := 0) rfl
        have x1 := kX.cell (i := 1) rfl
        clear hN1 hN2 hN3 hAB hAC hBC oW o2 kX kY hp
        refine wp_region_T (S := fun w' => w'.cell? ⟨A, 0, none⟩ = some (.slice ta1 j c1) ∧ w'.cell? ⟨p11, 0, none⟩ = some (.int .i64 px) ∧ w'.cell? ⟨p11, 1, none⟩ = some (.int .i64 py)) (z := 12) (by kernel_rfl) ?hS1 (fun hHeld => ?rest1)
        case hS1 => exact ⟨s0, x0, x1⟩
        refine tkT 0 ?_
        refine tkT 1 ?_
        refine tkT 2 ?_
        refine tkT 3 ?_
        refine tkT 4 ?_
        refine tkT 6 ?_
        refine wpAnyT_one (i := 5) (by kernel_rfl) rfl (fun KK hK => ?_)
        simp only [xa, xb, xc]
        go_simp
        refine (fix_any _ _).mono ?_
        rintro e V2 ⟨rfl, o5⟩
        have oV2 : Out 0 0 W2 V2 := ((Out.refl 0 0 _).drew).trans o5
        refine hK.out _ _ ?hS8 (fun hHeld2 => ?rest8)
        case hS8 => exact ⟨oV2.cell s0 (.inr (Nat.zero_le _)), oV2.cell x0 (.inr (Nat.zero_le _)), oV2.cell x1 (.inr (Nat.zero_le _))⟩
        clear hK KK
        (try clear hHeld)
        have hHeld := hHeld2
        clear hHeld2
        (try simp only [Act.put, xa, xb, xc, xd, xe, xf])
        refine wpAnyT_one (i := 7) (by kernel_rfl) rfl (fun KK hK => ?_)
        simp only [xa, xb, xc]
        go_simp
        obtain ⟨V3, hV3⟩ : ∃ X, V2.alloc (.cells #[.int .i64 1, .int .i64 d, .int .i64 px, .int .i64 py] 28) = X := ⟨_, rfl⟩
        obtain ⟨F1, hF1⟩ : ∃ F, V2.heap.size = F := ⟨_, rfl⟩
        rw [hV3, hF1]
        have oV3 : Out 0 0 W2 V3 := by rw [← hV3]; exact oV2.alloc _
        have kF : Bl V3 F1 #[.int .i64 1, .int .i64 d, .int .i64 px, .int .i64 py] 28 := by rw [← hV3, ← hF1]; exact Bl.new _ _ _
        have hF0 : W2.heap.size ≤ F1 := by rw [← hF1]; exact oV2.size
        obtain ⟨gA, cA, VA, hrun, hNA, hXA, hcA, hzA, hYA⟩ := HN1.out.app oV3 HB0.out (by have := HJ.out; omega) (F := F1) (by rw [HV1.out]; exact kF) hF0
        rw [HC1.out F1] at hrun
        clear hV3 hF1
        refine hK.out _ _ ?hS9 (fun hHeld2 => ?rest9)
        case hS9 => exact ⟨oV3.cell s0 (.inr (Nat.zero_le _)), oV3.cell x0 (.inr (Nat.zero_le _)), oV3.cell x1 (.inr (Nat.zero_le _))⟩
        clear hK KK
        (try clear hHeld)
        have hHeld := hHeld2
        clear hHeld2
        (try simp only [Act.put, xa, xb, xc, xd, xe, xf])
        refine tkT 8 ?_
        refine wpAnyT_one (i := 9) (by kernel_rfl) rfl (fun KK hK => ?_)
        simp only [xa, xb, xc]
        go_simp
        refine hK.out _ _ ?hS11 (fun hHeld2 => ?rest11)
        case hS11 => exact ⟨(oV3.alloc _).cell s0 (.inr (Nat.zero_le _)), (oV3.alloc _).cell x0 (.inr (Nat.zero_le _)), (oV3.alloc _).cell x1 (.inr (Nat.zero_le _))⟩
        clear hK KK
        (try clear hHeld)
        have hHeld := hHeld2
        clear hHeld2
        (try simp only [Act.put, xa, xb, xc, xd, xe, xf])
        refine wpAnyT_one (i := 10) (by kernel_rfl) rfl (fun KK hK => ?_)
        refine app_runs _ _ _ _ _ rfl _ _ rfl rfl hrun ?_
        refine hK.out _ _ ?hS12 (fun hHeld2 => ?rest12)
        case hS12 => exact ⟨hcA, hYA.cell x0 (fun h => by have := HD1.out _ h; have := HP.out; omega), hYA.cell x1 (fun h => by have := HD1.out _ h; have := HP.out; omega)⟩
        clear hK KK
        (try clear hHeld)
        have hHeld := hHeld2
        clear hHeld2
        (try simp only [Act.put, xa, xb, xc, xd, xe, xf])
        refine tkT 11 ?_
        refine wpAnyT_last (by kernel_rfl) rfl (fun KK hK => ?_)
        simp only [xa, xb, xc]
        have s9 := hHeld.1
        have z9 := hzA
        go_simp
        refine hK.out _ _ ?_
        clear hK KK
        (try simp only [Act.put, xa, xb, xc, xd, xe, xf])
        refine wpAnyT_done (by kernel_rfl) ?_ _
        obtain ⟨Wa, hWa⟩ : ∃ X, VA.setCell ⟨A, 0, none⟩ (.slice (some ⟨gA, 0, none⟩) (j + 1) cA) = X := ⟨_, rfl⟩
        rw [hWa] at hNA hXA ⊢
        have HN1a := hid_mk hNA
        have HN2a := hid_mk (HN2.out.fx hXA (fun x h h2 => HAP.out.1 x h2 h))
        have HN3a := hid_mk (HN3.out.fx hXA (fun x h h2 => HAP.out.2.1 x h2 h))
        have HB0a : Hid (W.heap.size ≤ Wa.heap.size) := hid_mk (Nat.le_trans HB0.out hXA.size)
        have HXA' := hid_mk hXA
        have kXa := HK.out.1.fx hXA (fun h => by have := HD1.out _ h; have := HP.out; omega)
        have kYa := HK.out.2.fx hXA (fun h => by have := HD1.out _ h; have := HP.out; omega)
        have HKa := hid_mk (And.intro kXa kYa)
        have HSZa : Hid (W2.heap.size ≤ Wa.heap.size ∧ VA.heap.size = Wa.heap.size) := hid_mk ⟨hXA.size, by rw [← hWa, size_set]⟩
        clear hWa hNA hXA hcA hzA hYA hrun kF hF0 oV3 oV2 o5 s0 x0 x1 hHeld s9 z9
        go_wp2_with fail
        have s0 := HN2a.out.cell0
        have x0 := kYa.cell (i := 0) rfl
        have x1 := kYa.cell (i := 1) rfl
        clear kXa kYa
        refine wp_region_T (S := fun w' => w'.cell? ⟨A + 1, 0, none⟩ = some (.slice ta2 j c2) ∧ w'.cell? ⟨p12, 0, none⟩ = some (.int .i64 qx) ∧ w'.cell? ⟨p12, 1, none⟩ = some (.int .i64 qy)) (z := 12) (by kernel_rfl) ?hS14 (fun hHeld => ?rest14)
        case hS14 => exact ⟨s0, x0, x1⟩
        refine tkT 0 ?_
        refine tkT 1 ?_
        refine tkT 2 ?_
        refine tkT 3 ?_
        refine tkT 4 ?_
        refine tkT 6 ?_
        refine wpAnyT_one (i := 5) (by kernel_rfl) rfl (fun KK hK => ?_)
        simp only [xa, xb, xc]
        go_simp
        refine (fix_any _ _).mono ?_
        rintro e V2 ⟨rfl, o5⟩
        have oV2 : Out 0 0 Wa V2 := ((Out.refl 0 0 _).drew).trans o5
        refine hK.out _ _ ?hS21 (fun hHeld2 => ?rest21)
        case hS21 => exact ⟨oV2.cell s0 (.inr (Nat.zero_le _)), oV2.cell x0 (.inr (Nat.zero_le _)), oV2.cell x1 (.inr (Nat.zero_le _))⟩
        clear hK KK
        (try clear hHeld)
        have hHeld := hHeld2
        clear hHeld2
        (try simp only [Act.put, xa, xb, xc, xd, xe, xf])
        refine wpAnyT_one (i := 7) (by kernel_rfl) rfl (fun KK hK => ?_)
        simp only [xa, xb, xc]
        go_simp
        obtain ⟨V3, hV3⟩ : ∃ X, V2.alloc (.cells #[.int .i64 1, .int .i64 d, .int .i64 qx, .int .i64 qy] 28) = X := ⟨_, rfl⟩
        obtain ⟨F1, hF1⟩ : ∃ F, V2.heap.size = F := ⟨_, rfl⟩
        rw [hV3, hF1]
        have oV3 : Out 0 0 Wa V3 := by rw [← hV3]; exact oV2.alloc _
        have kF : Bl V3 F1 #[.int .i64 1, .int .i64 d, .int .i64 qx, .int .i64 qy] 28 := by rw [← hV3, ← hF1]; exact Bl.new _ _ _
        have hF0 : Wa.heap.size ≤ F1 := by rw [← hF1]; exact oV2.size
        obtain ⟨gB, cB, VB, hrun, hNB, hXB, hcB, hzB, hYB⟩ := HN2a.out.app oV3 HB0a.out (by have := HJ.out; omega) (F := F1) (by rw [HV2.out]; exact kF) hF0
        rw [HC1.out F1] at hrun
        clear hV3 hF1
        refine hK.out _ _ ?hS22 (fun hHeld2 => ?rest22)
        case hS22 => exact ⟨oV3.cell s0 (.inr (Nat.zero_le _)), oV3.cell x0 (.inr (Nat.zero_le _)), oV3.cell x1 (.inr (Nat.zero_le _))⟩
        clear hK KK
        (try clear hHeld)
        have hHeld := hHeld2
        clear hHeld2
        (try simp only [Act.put, xa, xb, xc, xd, xe, xf])
        refine tkT 8 ?_
        refine wpAnyT_one (i := 9) (by kernel_rfl) rfl (fun KK hK => ?_)
        simp only [xa, xb, xc]
        go_simp
        refine hK.out _ _ ?hS24 (fun hHeld2 => ?rest24)
        case hS24 => exact ⟨(oV3.alloc _).cell s0 (.inr (Nat.zero_le _)), (oV3.alloc _).cell x0 (.inr (Nat.zero_le _)), (oV3.alloc _).cell x1 (.inr (Nat.zero_le _))⟩
        clear hK KK
        (try clear hHeld)
        have hHeld := hHeld2
        clear hHeld2
        (try simp only [Act.put, xa, xb, xc, xd, xe, xf])
        refine wpAnyT_one (i := 10) (by kernel_rfl) rfl (fun KK hK => ?_)
        refine app_runs _ _ _ _ _ rfl _ _ rfl rfl hrun ?_
        refine hK.out _ _ ?hS25 (fun hHeld2 => ?rest25)
        case hS25 => exact ⟨hcB, hYB.cell x0 (fun h => by have := HD2.out _ h; have := HP.out; omega), hYB.cell x1 (fun h => by have := HD2.out _ h; have := HP.out; omega)⟩
        clear hK KK
        (try clear hHeld)
        have hHeld := hHeld2
        clear hHeld2
        (try simp only [Act.put, xa, xb, xc, xd, xe, xf])
        refine tkT 11 ?_
        refine wpAnyT_last (by kernel_rfl) rfl (fun KK hK => ?_)
        simp only [xa, xb, xc]
        have s9 := hHeld.1
        have z9 := hzB
        go_simp
        refine hK.out _ _ ?_
        clear hK KK
        (try simp only [Act.put, xa, xb, xc, xd, xe, xf])
        refine wpAnyT_done (by kernel_rfl) ?_ _
        obtain ⟨Wb, hWb⟩ : ∃ X, VB.setCell ⟨A + 1, 0, none⟩ (.slice (some ⟨gB, 0, none⟩) (j + 1) cB) = X := ⟨_, rfl⟩
        rw [hWb] at hNB hXB ⊢
        have HN1b := hid_mk (HN1a.out.fx hXB (fun x h h2 => h.elim (fun h => HAP.out.1 x h h2) (fun h => by have := HD2.out _ h2; have := HWS.out; omega)))
        have HN2b := hid_mk hNB
        have HN3b := hid_mk (HN3a.out.fx hXB (fun x h h2 => HAP.out.2.2 x h2 h))
        have HB0b : Hid (W.heap.size ≤ Wb.heap.size) := hid_mk (Nat.le_trans HB0a.out hXB.size)
        have HXB' := hid_mk hXB
        have kXb := HKa.out.1.fx hXB (fun h => by have := HD2.out _ h; have := HP.out; omega)
        have HSZb : Hid (Wa.heap.size ≤ Wb.heap.size ∧ VB.heap.size = Wb.heap.size) := hid_mk ⟨hXB.size, by rw [← hWb, size_set]⟩
        clear hWb hNB hXB hcB hzB hYB hrun kF hF0 oV3 oV2 o5 s0 x0 x1 hHeld s9 z9
        have s0 := HN3b.out.cell0
        have x0 := kXb.cell (i := 0) rfl
        have x1 := kXb.cell (i := 1) rfl
        have oF : Out 0 0 Wb (Wb.alloc (.cells #[.int .i64 px, .int .i64 py] 28)) := (Out.refl _ _ _).alloc _
        obtain ⟨gC, cC, VC, hrun, hNC, hXC, hcC, hzC, hYC⟩ := HN3b.out.app oF HB0b.out (by have := HJ.out; omega) (F := Wb.heap.size) (by rw [HV3.out]; exact Bl.new _ _ _) (Nat.le_refl _)
        rw [HC2.out Wb.heap.size, size_alloc] at hrun
        have HC := hid_mk (And.intro hNC (And.intro hXC hYC))
        clear hNC hXC hYC oF kXb
        obtain ⟨u, hu⟩ : ∃ u, UInt8.ofNat (48 + i % 10) = u := ⟨_, rfl⟩
        have hcv := conv_u8 (VC.setCell ⟨A + 1 + 1, 0, none⟩ (.slice (some ⟨gC, 0, none⟩) (j + 1) cC)) (48 + i % 10)
        rw [size_set, show ((48 + i % 10 : Nat) : Int) = 48 + d from by have := HDD.out; omega, hu] at hcv
        have hub : uB (j + 1) = u := by rw [← HIJ.out]; exact hu
        have hbl := bdy_len j
        have hcl := cL_len j
        have hc1 := bS_add (cL j) [35, 38] (by have := HJ.out; simp only [List.length_cons, List.length_nil]; omega)
        have fin : ∀ We, Out 0 0 (VC.setCell ⟨A + 1 + 1, 0, none⟩ (.slice (some ⟨gC, 0, none⟩) (j + 1) cC)) We → ∃ (SA' SB' SC' : Nat → Prop) (ta1 : Option Addr) (c1 : Nat) (ta2 : Option Addr) (c2 : Nat) (ta3 : Option Addr) (c3 : Nat), LSt W We W.heap.size A N (j + 1) SA' SB' SC' ta1 c1 ta2 c2 ta3 c3 := by
          intro We oe
          obtain ⟨hNC, hXC, _⟩ := HC.out
          have hA1 := HN1b.out.fx hXC (fun x h h2 => h.elim (fun h => HAP.out.2.1 x h h2) (fun h => by have := HD3.out _ h2; have := HWS.out; omega))
          have hB1 := HN2b.out.fx hXC (fun x h h2 => h.elim (fun h => HAP.out.2.2 x h h2) (fun h => by have := HD3.out _ h2; have := HWS.out; have := HSZa.out; omega))
          refine ⟨_, _, _, _, _, _, _, _, _, hA1.out oe, hB1.out oe, hNC.out oe, fun x h h2 => ?_, fun x h h2 => ?_, fun x h h2 => ?_, ?_⟩
          · have hs := HSZa.out
            have hw := HWS.out
            rcases h with h | h <;> rcases h2 with h2 | h2
            · exact HAP.out.1 x h h2
            · have := HD1.out _ h; omega
            · have := HD2.out _ h2; omega
            · omega
          · have hs := HSZa.out
            have hs2 := HSZb.out
            have hw := HWS.out
            rcases h with h | h <;> rcases h2 with h2 | h2
            · exact HAP.out.2.1 x h h2
            · have := HD1.out _ h; omega
            · have := HD3.out _ h2; omega
            · omega
          · have hs := HSZa.out
            have hs2 := HSZb.out
            have hw := HWS.out
            rcases h with h | h <;> rcases h2 with h2 | h2
            · exact HAP.out.2.2 x h h2
            · have := HD2.out _ h; omega
            · have := HD3.out _ h2; omega
            · omega
          · exact ((((Fx.of_out (S := fun b => W.heap.size ≤ b) HOW.out (fun b h1 h2 _ => by omega)).trans (HXA'.out.wide (fun b _ h => (HD1.out _ h).1))).trans (HXB'.out.wide (fun b _ h => (HD2.out _ h).1))).trans (hXC.wide (fun b _ h => (HD3.out _ h).1))).trans (Fx.of_out oe (fun b h1 h2 _ => by omega)) |>.out0 (fun b h => h)
        have HFIN := hid_mk fin
        clear fin
        by_cases hi1 : 1 < i
        · have q1 : (1 : Int) < (i : Int) := by omega
          have hsp : bdy (j + 1) = bdy j ++ [32, u] := by show bdy j ++ sepd (j + 1) = _; unfold sepd; rw [if_pos (by have := HIJ.out; omega), hub]
          have ha0 := bS_add [32] [u] (by simp only [List.length_cons, List.length_nil]; omega)
          have ha1 := bS_add (40 :: bdy j) [32, u] (by have := HJ.out; simp only [List.length_cons, List.length_nil]; omega)
          have hb1 := bS_add (35 :: 48 :: 61 :: 40 :: bdy j) [32, u] (by have := HJ.out; simp only [List.length_cons, List.length_nil]; omega)
          change ∀ W, (Op.stringOp .add ⟨#[32]⟩ ⟨#[u]⟩).run Tryd.prog W = .ok (.string (bS [32, u])) W at ha0
          change ∀ W, (Op.stringOp .add (bS (cL j)) ⟨#[35, 38]⟩).run Tryd.prog W = .ok (.string (bS (cL j ++ [35, 38]))) W at hc1
          change ∀ W, (Op.stringOp .add (bS (40 :: bdy j)) (bS [32, u])).run Tryd.prog W = .ok (.string (bS (40 :: (bdy j ++ [32, u])))) W at ha1
          change ∀ W, (Op.stringOp .add (bS (35 :: 48 :: 61 :: 40 :: bdy j)) (bS [32, u])).run Tryd.prog W = .ok (.string (bS (35 :: 48 :: 61 :: 40 :: (bdy j ++ [32, u])))) W at hb1
          rw [← hsp] at ha1 hb1
          have HSP := hid_mk hsp
          clear hub hbl hcl hi1 hsp
          go_wp2_with (at_builtin; refine wpList_app rfl _ _ 23 rfl rfl rfl hrun ?_)
          obtain ⟨SA', SB', SC', u1, v1, u2, v2, u3, v3, hL'⟩ := HFIN.out _ ((Out.refl _ _ _).alloc _)
          exact ⟨⟨i + 1, j + 1, SA', SB', SC', u1, v1, u2, v2, u3, v3, rfl, by have := HIJ.out; omega, HJN.out, rfl, rfl, rfl, hL'⟩, by simp [intOf]; omega⟩
        · have q1 : ¬ (1 : Int) < (i : Int) := by omega
          have hsp : bdy (j + 1) = bdy j ++ [u] := by show bdy j ++ sepd (j + 1) = _; unfold sepd; rw [if_neg (by have := HIJ.out; omega), hub]
          have ha1 := bS_add (40 :: bdy j) [u] (by have := HJ.out; simp only [List.length_cons, List.length_nil]; omega)
          have hb1 := bS_add (35 :: 48 :: 61 :: 40 :: bdy j) [u] (by have := HJ.out; simp only [List.length_cons, List.length_nil]; omega)
          change ∀ W, (Op.stringOp .add (bS (cL j)) ⟨#[35, 38]⟩).run Tryd.prog W = .ok (.string (bS (cL j ++ [35, 38]))) W at hc1
          change ∀ W, (Op.stringOp .add (bS (40 :: bdy j)) ⟨#[u]⟩).run Tryd.prog W = .ok (.string (bS (40 :: (bdy j ++ [u])))) W at ha1
          change ∀ W, (Op.stringOp .add (bS (35 :: 48 :: 61 :: 40 :: bdy j)) ⟨#[u]⟩).run Tryd.prog W = .ok (.string (bS (35 :: 48 :: 61 :: 40 :: (bdy j ++ [u])))) W at hb1
          rw [← hsp] at ha1 hb1
          clear hub hbl hcl hi1 hsp
          go_wp2_with (at_builtin; refine wpList_app rfl _ _ 23 rfl rfl rfl hrun ?_)
          obtain ⟨SA', SB', SC', u1, v1, u2, v2, u3, v3, hL'⟩ := HFIN.out _ ((Out.refl _ _ _).alloc _)
          exact ⟨⟨i + 1, j + 1, SA', SB', SC', u1, v1, u2, v2, u3, v3, rfl, by have := HIJ.out; omega, HJN.out, rfl, rfl, rfl, hL'⟩, by simp [intOf]; omega⟩
      · have hie : i = N := by omega
        have e2 : ((i : Int) == (N : Int)) = true := by simp; omega
        obtain ⟨px, py, hpx⟩ : ∃ x y, nx N false (j + 1) = (x, y) := ⟨_, _, rfl⟩
        obtain ⟨qx, qy, hqx⟩ : ∃ x y, nx N true (j + 1) = (x, y) := ⟨_, _, rfl⟩
        have va : ((3 : Int), (0 : Int)) = (px, py) := by rw [← hpx]; unfold nx; rw [if_neg (by omega)]; rfl
        have vb : ((2 : Int), (1 : Int)) = (qx, qy) := by rw [← hqx]; unfold nx; rw [if_neg (by omega), if_pos rfl]
        have HXA := hid_mk hpx
        have HXB := hid_mk hqx
        have HVA := hid_mk va
        have HVB := hid_mk vb
        clear hij hj hL hjN hd hpx hqx va vb hie
        go_wp2_with fail
        refine (ref_any _ _).mono ?_
        rintro e w3 ⟨rfl, o3⟩
        have HO3 := hid_mk o3
        clear o3
        go_wp2_with fail
        refine (ref_any _ _).mono ?_
        rintro e w4 ⟨rfl, o4⟩
        have HO4 := hid_mk o4
        clear o4
        go_wp2_with fail
        refine (null_any _).mono ?_
        rintro e w5 ⟨rfl, o5⟩
        have hp : wr.heap.size ≤ w3.heap.size ∧ w3.heap.size < w4.heap.size := ⟨HO3.out.size, by have := HO4.out.size; rw [size_alloc] at this; omega⟩
        have k11 := (((Bl.new w3 #[.int .i64 2, .int .i64 ((i : Int) + 1)] 28).kept HO4.out (.inr (Nat.zero_le _))).alloc (.cells #[.int .i64 2, .int .i64 ((i : Int) + 1)] 28)).kept o5 (.inr (Nat.zero_le _))
        have k12 := (Bl.new w4 #[.int .i64 2, .int .i64 ((i : Int) + 1)] 28).kept o5 (.inr (Nat.zero_le _))
        have f0 := k11.cell (i := 0) rfl
        have f1 := k11.cell (i := 1) rfl
        have f2 := k11.frozen 0
        have f3 := k11.frozen 1
        have HO5 := hid_mk o5
        have HK1 := hid_mk (And.intro k11 k12)
        have HPP := hid_mk hp
        clear o5 k11 k12 hp
        go_wp2_with fail
        refine (ref_any _ _).mono ?_
        rintro e w6 ⟨rfl, o6⟩
        have hp := HPP.out
        have k11 := ((HK1.out.1.set 0 (.int .i64 3)).set 1 (.int .i64 0)).kept o6 (.inr (Nat.zero_le _))
        have k12 := ((HK1.out.2.other (q := ⟨w3.heap.size, 0, none⟩) (by show w3.heap.size ≠ _; omega) (.int .i64 3)).other (q := ⟨w3.heap.size, 1, none⟩) (by show w3.heap.size ≠ _; omega) (.int .i64 0)).kept o6 (.inr (Nat.zero_le _))
        have g0 := k12.cell (i := 0) rfl
        have g1 := k12.cell (i := 1) rfl
        have g2 := k12.frozen 0
        have g3 := k12.frozen 1
        have HK2 := hid_mk (And.intro k11 k12)
        have HO6 := hid_mk o6
        clear o6 k11 k12 hp f0 f1 f2 f3
        go_wp2_with fail
        refine wp_named (fun W2 hW2 => ?_)
        have hp := HPP.out
        have o2 : Out 0 0 wr W2 := by
          rw [hW2]
          exact ((((((((HO3.out.alloc _).trans HO4.out).alloc _).trans HO5.out).setCell (.inr hp.1) _).setCell (.inr hp.1) _).trans HO6.out).setCell (.inr (by show _ ≤ w4.heap.size; omega)) _).setCell (.inr (by show _ ≤ w4.heap.size; omega)) _
        have kY : Bl W2 w4.heap.size #[.int .i64 qx, .int .i64 qy] 28 := by
          rw [hW2, ← (Prod.mk.inj HVB.out).1, ← (Prod.mk.inj HVB.out).2]; exact (HK2.out.2.set 0 _).set 1 _
        have kX : Bl W2 w3.heap.size #[.int .i64 px, .int .i64 py] 28 := by
          rw [hW2, ← (Prod.mk.inj HVA.out).1, ← (Prod.mk.inj HVA.out).2]; exact (HK2.out.1.other (q := ⟨w4.heap.size, 0, none⟩) (by show w4.heap.size ≠ _; omega) _).other (q := ⟨w4.heap.size, 1, none⟩) (by show w4.heap.size ≠ _; omega) _
        obtain ⟨p11, h11⟩ : ∃ p, w3.heap.size = p := ⟨_, rfl⟩
        obtain ⟨p12, h12⟩ : ∃ p, w4.heap.size = p := ⟨_, rfl⟩
        rw [h12] at kY hp
        rw [h11] at kX hp
        rw [h11, h12]
        clear hW2 h11 h12 g0 g1 g2 g3 HK1 HK2 HPP
        have HP := hid_mk hp
        obtain ⟨hN1, hN2, hN3, hAB, hAC, hBC, oW⟩ := HL.out
        have HB0 : Hid (W.heap.size ≤ W2.heap.size) := hid_mk (Nat.le_trans oW.size o2.size)
        have HD1 : Hid (∀ x, SA x → W.heap.size ≤ x ∧ x < wr.heap.size) := hid_mk (fun x h => hN1.dom x h)
        have HD2 : Hid (∀ x, SB x → W.heap.size ≤ x ∧ x < wr.heap.size) := hid_mk (fun x h => hN2.dom x h)
        have HD3 : Hid (∀ x, SC x → W.heap.size ≤ x ∧ x < wr.heap.size) := hid_mk (fun x h => hN3.dom x h)
        have HN1 := hid_mk (hN1.out o2)
        have HN2 := hid_mk (hN2.out o2)
        have HN3 := hid_mk (hN3.out o2)
        have HAP := hid_mk (And.intro hAB (And.intro hAC hBC))
        have HOW := hid_mk (oW.trans o2)
        have HV1 : Hid (flat (hdV 1 N false (j + 1)) = [.int .i64 1, .int .i64 d, .int .i64 px, .int .i64 py]) := hid_mk (by unfold hdV; rw [if_pos rfl, HXA.out, ← HDD.out, HIJ.out]; rfl)
        have HV2 : Hid (flat (hdV 1 N true (j + 1)) = [.int .i64 1, .int .i64 d, .int .i64 qx, .int .i64 qy]) := hid_mk (by unfold hdV; rw [if_pos rfl, HXB.out, ← HDD.out, HIJ.out]; rfl)
        have HV3 : Hid (flat (hdV 2 N false (j + 1)) = [.int .i64 px, .int .i64 py]) := hid_mk (by unfold hdV; rw [if_neg (by decide), HXA.out]; rfl)
        have HC1 : Hid (∀ F, (ndC5 1 (arV 1) j F).toArray = #[.int .i64 (i : Int), .int .i64 1, .slice none 0 0, .slice (some ⟨F, 0, none⟩) 2 2, .slice none 0 0]) := hid_mk (fun F => by unfold ndC5; rw [HIJ.out]; rfl)
        have HC2 : Hid (∀ F, (ndC5 2 (arV 2) j F).toArray = #[.int .i64 (i : Int), .int .i64 2, .slice none 0 0, .slice (some ⟨F, 0, none⟩) 1 1, .slice none 0 0]) := hid_mk (fun F => by unfold ndC5; rw [HIJ.out]; rfl)
        have HWS : Hid (wr.heap.size ≤ W2.heap.size) := hid_mk o2.size
        have HK := hid_mk (And.intro kX kY)
        have s0 := HN1.out.cell0
        have x0 := kX.cell (i := 0) rfl
        have x1 := kX.cell (i := 1) rfl
        clear hN1 hN2 hN3 hAB hAC hBC oW o2 kX kY hp
        refine wp_region_T (S := fun w' => w'.cell? ⟨A, 0, none⟩ = some (.slice ta1 j c1) ∧ w'.cell? ⟨p11, 0, none⟩ = some (.int .i64 px) ∧ w'.cell? ⟨p11, 1, none⟩ = some (.int .i64 py)) (z := 12) (by kernel_rfl) ?hS27 (fun hHeld => ?rest27)
        case hS27 => exact ⟨s0, x0, x1⟩
        refine tkT 0 ?_
        refine tkT 1 ?_
        refine tkT 2 ?_
        refine tkT 3 ?_
        refine tkT 4 ?_
        refine tkT 6 ?_
        refine wpAnyT_one (i := 5) (by kernel_rfl) rfl (fun KK hK => ?_)
        simp only [xa, xb, xc]
        go_simp
        refine (fix_any _ _).mono ?_
        rintro e V2 ⟨rfl, o5⟩
        have oV2 : Out 0 0 W2 V2 := ((Out.refl 0 0 _).drew).trans o5
        refine hK.out _ _ ?hS34 (fun hHeld2 => ?rest34)
        case hS34 => exact ⟨oV2.cell s0 (.inr (Nat.zero_le _)), oV2.cell x0 (.inr (Nat.zero_le _)), oV2.cell x1 (.inr (Nat.zero_le _))⟩
        clear hK KK
        (try clear hHeld)
        have hHeld := hHeld2
        clear hHeld2
        (try simp only [Act.put, xa, xb, xc, xd, xe, xf])
        refine wpAnyT_one (i := 7) (by kernel_rfl) rfl (fun KK hK => ?_)
        simp only [xa, xb, xc]
        go_simp
        obtain ⟨V3, hV3⟩ : ∃ X, V2.alloc (.cells #[.int .i64 1, .int .i64 d, .int .i64 px, .int .i64 py] 28) = X := ⟨_, rfl⟩
        obtain ⟨F1, hF1⟩ : ∃ F, V2.heap.size = F := ⟨_, rfl⟩
        rw [hV3, hF1]
        have oV3 : Out 0 0 W2 V3 := by rw [← hV3]; exact oV2.alloc _
        have kF : Bl V3 F1 #[.int .i64 1, .int .i64 d, .int .i64 px, .int .i64 py] 28 := by rw [← hV3, ← hF1]; exact Bl.new _ _ _
        have hF0 : W2.heap.size ≤ F1 := by rw [← hF1]; exact oV2.size
        obtain ⟨gA, cA, VA, hrun, hNA, hXA, hcA, hzA, hYA⟩ := HN1.out.app oV3 HB0.out (by have := HJ.out; omega) (F := F1) (by rw [HV1.out]; exact kF) hF0
        rw [HC1.out F1] at hrun
        clear hV3 hF1
        refine hK.out _ _ ?hS35 (fun hHeld2 => ?rest35)
        case hS35 => exact ⟨oV3.cell s0 (.inr (Nat.zero_le _)), oV3.cell x0 (.inr (Nat.zero_le _)), oV3.cell x1 (.inr (Nat.zero_le _))⟩
        clear hK KK
        (try clear hHeld)
        have hHeld := hHeld2
        clear hHeld2
        (try simp only [Act.put, xa, xb, xc, xd, xe, xf])
        refine tkT 8 ?_
        refine wpAnyT_one (i := 9) (by kernel_rfl) rfl (fun KK hK => ?_)
        simp only [xa, xb, xc]
        go_simp
        refine hK.out _ _ ?hS37 (fun hHeld2 => ?rest37)
        case hS37 => exact ⟨(oV3.alloc _).cell s0 (.inr (Nat.zero_le _)), (oV3.alloc _).cell x0 (.inr (Nat.zero_le _)), (oV3.alloc _).cell x1 (.inr (Nat.zero_le _))⟩
        clear hK KK
        (try clear hHeld)
        have hHeld := hHeld2
        clear hHeld2
        (try simp only [Act.put, xa, xb, xc, xd, xe, xf])
        refine wpAnyT_one (i := 10) (by kernel_rfl) rfl (fun KK hK => ?_)
        refine app_runs _ _ _ _ _ rfl _ _ rfl rfl hrun ?_
        refine hK.out _ _ ?hS38 (fun hHeld2 => ?rest38)
        case hS38 => exact ⟨hcA, hYA.cell x0 (fun h => by have := HD1.out _ h; have := HP.out; omega), hYA.cell x1 (fun h => by have := HD1.out _ h; have := HP.out; omega)⟩
        clear hK KK
        (try clear hHeld)
        have hHeld := hHeld2
        clear hHeld2
        (try simp only [Act.put, xa, xb, xc, xd, xe, xf])
        refine tkT 11 ?_
        refine wpAnyT_last (by kernel_rfl) rfl (fun KK hK => ?_)
        simp only [xa, xb, xc]
        have s9 := hHeld.1
        have z9 := hzA
        go_simp
        refine hK.out _ _ ?_
        clear hK KK
        (try simp only [Act.put, xa, xb, xc, xd, xe, xf])
        refine wpAnyT_done (by kernel_rfl) ?_ _
        obtain ⟨Wa, hWa⟩ : ∃ X, VA.setCell ⟨A, 0, none⟩ (.slice (some ⟨gA, 0, none⟩) (j + 1) cA) = X := ⟨_, rfl⟩
        rw [hWa] at hNA hXA ⊢
        have HN1a := hid_mk hNA
        have HN2a := hid_mk (HN2.out.fx hXA (fun x h h2 => HAP.out.1 x h2 h))
        have HN3a := hid_mk (HN3.out.fx hXA (fun x h h2 => HAP.out.2.1 x h2 h))
        have HB0a : Hid (W.heap.size ≤ Wa.heap.size) := hid_mk (Nat.le_trans HB0.out hXA.size)
        have HXA' := hid_mk hXA
        have kXa := HK.out.1.fx hXA (fun h => by have := HD1.out _ h; have := HP.out; omega)
        have kYa := HK.out.2.fx hXA (fun h => by have := HD1.out _ h; have := HP.out; omega)
        have HKa := hid_mk (And.intro kXa kYa)
        have HSZa : Hid (W2.heap.size ≤ Wa.heap.size ∧ VA.heap.size = Wa.heap.size) := hid_mk ⟨hXA.size, by rw [← hWa, size_set]⟩
        clear hWa hNA hXA hcA hzA hYA hrun kF hF0 oV3 oV2 o5 s0 x0 x1 hHeld s9 z9
        go_wp2_with fail
        have s0 := HN2a.out.cell0
        have x0 := kYa.cell (i := 0) rfl
        have x1 := kYa.cell (i := 1) rfl
        clear kXa kYa
        refine wp_region_T (S := fun w' => w'.cell? ⟨A + 1, 0, none⟩ = some (.slice ta2 j c2) ∧ w'.cell? ⟨p12, 0, none⟩ = some (.int .i64 qx) ∧ w'.cell? ⟨p12, 1, none⟩ = some (.int .i64 qy)) (z := 12) (by kernel_rfl) ?hS40 (fun hHeld => ?rest40)
        case hS40 => exact ⟨s0, x0, x1⟩
        refine tkT 0 ?_
        refine tkT 1 ?_
        refine tkT 2 ?_
        refine tkT 3 ?_
        refine tkT 4 ?_
        refine tkT 6 ?_
        refine wpAnyT_one (i := 5) (by kernel_rfl) rfl (fun KK hK => ?_)
        simp only [xa, xb, xc]
        go_simp
        refine (fix_any _ _).mono ?_
        rintro e V2 ⟨rfl, o5⟩
        have oV2 : Out 0 0 Wa V2 := ((Out.refl 0 0 _).drew).trans o5
        refine hK.out _ _ ?hS47 (fun hHeld2 => ?rest47)
        case hS47 => exact ⟨oV2.cell s0 (.inr (Nat.zero_le _)), oV2.cell x0 (.inr (Nat.zero_le _)), oV2.cell x1 (.inr (Nat.zero_le _))⟩
        clear hK KK
        (try clear hHeld)
        have hHeld := hHeld2
        clear hHeld2
        (try simp only [Act.put, xa, xb, xc, xd, xe, xf])
        refine wpAnyT_one (i := 7) (by kernel_rfl) rfl (fun KK hK => ?_)
        simp only [xa, xb, xc]
        go_simp
        obtain ⟨V3, hV3⟩ : ∃ X, V2.alloc (.cells #[.int .i64 1, .int .i64 d, .int .i64 qx, .int .i64 qy] 28) = X := ⟨_, rfl⟩
        obtain ⟨F1, hF1⟩ : ∃ F, V2.heap.size = F := ⟨_, rfl⟩
        rw [hV3, hF1]
        have oV3 : Out 0 0 Wa V3 := by rw [← hV3]; exact oV2.alloc _
        have kF : Bl V3 F1 #[.int .i64 1, .int .i64 d, .int .i64 qx, .int .i64 qy] 28 := by rw [← hV3, ← hF1]; exact Bl.new _ _ _
        have hF0 : Wa.heap.size ≤ F1 := by rw [← hF1]; exact oV2.size
        obtain ⟨gB, cB, VB, hrun, hNB, hXB, hcB, hzB, hYB⟩ := HN2a.out.app oV3 HB0a.out (by have := HJ.out; omega) (F := F1) (by rw [HV2.out]; exact kF) hF0
        rw [HC1.out F1] at hrun
        clear hV3 hF1
        refine hK.out _ _ ?hS48 (fun hHeld2 => ?rest48)
        case hS48 => exact ⟨oV3.cell s0 (.inr (Nat.zero_le _)), oV3.cell x0 (.inr (Nat.zero_le _)), oV3.cell x1 (.inr (Nat.zero_le _))⟩
        clear hK KK
        (try clear hHeld)
        have hHeld := hHeld2
        clear hHeld2
        (try simp only [Act.put, xa, xb, xc, xd, xe, xf])
        refine tkT 8 ?_
        refine wpAnyT_one (i := 9) (by kernel_rfl) rfl (fun KK hK => ?_)
        simp only [xa, xb, xc]
        go_simp
        refine hK.out _ _ ?hS50 (fun hHeld2 => ?rest50)
        case hS50 => exact ⟨(oV3.alloc _).cell s0 (.inr (Nat.zero_le _)), (oV3.alloc _).cell x0 (.inr (Nat.zero_le _)), (oV3.alloc _).cell x1 (.inr (Nat.zero_le _))⟩
        clear hK KK
        (try clear hHeld)
        have hHeld := hHeld2
        clear hHeld2
        (try simp only [Act.put, xa, xb, xc, xd, xe, xf])
        refine wpAnyT_one (i := 10) (by kernel_rfl) rfl (fun KK hK => ?_)
        refine app_runs _ _ _ _ _ rfl _ _ rfl rfl hrun ?_
        refine hK.out _ _ ?hS51 (fun hHeld2 => ?rest51)
        case hS51 => exact ⟨hcB, hYB.cell x0 (fun h => by have := HD2.out _ h; have := HP.out; omega), hYB.cell x1 (fun h => by have := HD2.out _ h; have := HP.out; omega)⟩
        clear hK KK
        (try clear hHeld)
        have hHeld := hHeld2
        clear hHeld2
        (try simp only [Act.put, xa, xb, xc, xd, xe, xf])
        refine tkT 11 ?_
        refine wpAnyT_last (by kernel_rfl) rfl (fun KK hK => ?_)
        simp only [xa, xb, xc]
        have s9 := hHeld.1
        have z9 := hzB
        go_simp
        refine hK.out _ _ ?_
        clear hK KK
        (try simp only [Act.put, xa, xb, xc, xd, xe, xf])
        refine wpAnyT_done (by kernel_rfl) ?_ _
        obtain ⟨Wb, hWb⟩ : ∃ X, VB.setCell ⟨A + 1, 0, none⟩ (.slice (some ⟨gB, 0, none⟩) (j + 1) cB) = X := ⟨_, rfl⟩
        rw [hWb] at hNB hXB ⊢
        have HN1b := hid_mk (HN1a.out.fx hXB (fun x h h2 => h.elim (fun h => HAP.out.1 x h h2) (fun h => by have := HD2.out _ h2; have := HWS.out; omega)))
        have HN2b := hid_mk hNB
        have HN3b := hid_mk (HN3a.out.fx hXB (fun x h h2 => HAP.out.2.2 x h2 h))
        have HB0b : Hid (W.heap.size ≤ Wb.heap.size) := hid_mk (Nat.le_trans HB0a.out hXB.size)
        have HXB' := hid_mk hXB
        have kXb := HKa.out.1.fx hXB (fun h => by have := HD2.out _ h; have := HP.out; omega)
        have HSZb : Hid (Wa.heap.size ≤ Wb.heap.size ∧ VB.heap.size = Wb.heap.size) := hid_mk ⟨hXB.size, by rw [← hWb, size_set]⟩
        clear hWb hNB hXB hcB hzB hYB hrun kF hF0 oV3 oV2 o5 s0 x0 x1 hHeld s9 z9
        have s0 := HN3b.out.cell0
        have x0 := kXb.cell (i := 0) rfl
        have x1 := kXb.cell (i := 1) rfl
        have oF : Out 0 0 Wb (Wb.alloc (.cells #[.int .i64 px, .int .i64 py] 28)) := (Out.refl _ _ _).alloc _
        obtain ⟨gC, cC, VC, hrun, hNC, hXC, hcC, hzC, hYC⟩ := HN3b.out.app oF HB0b.out (by have := HJ.out; omega) (F := Wb.heap.size) (by rw [HV3.out]; exact Bl.new _ _ _) (Nat.le_refl _)
        rw [HC2.out Wb.heap.size, size_alloc] at hrun
        have HC := hid_mk (And.intro hNC (And.intro hXC hYC))
        clear hNC hXC hYC oF kXb
        obtain ⟨u, hu⟩ : ∃ u, UInt8.ofNat (48 + i % 10) = u := ⟨_, rfl⟩
        have hcv := conv_u8 (VC.setCell ⟨A + 1 + 1, 0, none⟩ (.slice (some ⟨gC, 0, none⟩) (j + 1) cC)) (48 + i % 10)
        rw [size_set, show ((48 + i % 10 : Nat) : Int) = 48 + d from by have := HDD.out; omega, hu] at hcv
        have hub : uB (j + 1) = u := by rw [← HIJ.out]; exact hu
        have hbl := bdy_len j
        have hcl := cL_len j
        have hc1 := bS_add (cL j) [35, 38] (by have := HJ.out; simp only [List.length_cons, List.length_nil]; omega)
        have fin : ∀ We, Out 0 0 (VC.setCell ⟨A + 1 + 1, 0, none⟩ (.slice (some ⟨gC, 0, none⟩) (j + 1) cC)) We → ∃ (SA' SB' SC' : Nat → Prop) (ta1 : Option Addr) (c1 : Nat) (ta2 : Option Addr) (c2 : Nat) (ta3 : Option Addr) (c3 : Nat), LSt W We W.heap.size A N (j + 1) SA' SB' SC' ta1 c1 ta2 c2 ta3 c3 := by
          intro We oe
          obtain ⟨hNC, hXC, _⟩ := HC.out
          have hA1 := HN1b.out.fx hXC (fun x h h2 => h.elim (fun h => HAP.out.2.1 x h h2) (fun h => by have := HD3.out _ h2; have := HWS.out; omega))
          have hB1 := HN2b.out.fx hXC (fun x h h2 => h.elim (fun h => HAP.out.2.2 x h h2) (fun h => by have := HD3.out _ h2; have := HWS.out; have := HSZa.out; omega))
          refine ⟨_, _, _, _, _, _, _, _, _, hA1.out oe, hB1.out oe, hNC.out oe, fun x h h2 => ?_, fun x h h2 => ?_, fun x h h2 => ?_, ?_⟩
          · have hs := HSZa.out
            have hw := HWS.out
            rcases h with h | h <;> rcases h2 with h2 | h2
            · exact HAP.out.1 x h h2
            · have := HD1.out _ h; omega
            · have := HD2.out _ h2; omega
            · omega
          · have hs := HSZa.out
            have hs2 := HSZb.out
            have hw := HWS.out
            rcases h with h | h <;> rcases h2 with h2 | h2
            · exact HAP.out.2.1 x h h2
            · have := HD1.out _ h; omega
            · have := HD3.out _ h2; omega
            · omega
          · have hs := HSZa.out
            have hs2 := HSZb.out
            have hw := HWS.out
            rcases h with h | h <;> rcases h2 with h2 | h2
            · exact HAP.out.2.2 x h h2
            · have := HD2.out _ h; omega
            · have := HD3.out _ h2; omega
            · omega
          · exact ((((Fx.of_out (S := fun b => W.heap.size ≤ b) HOW.out (fun b h1 h2 _ => by omega)).trans (HXA'.out.wide (fun b _ h => (HD1.out _ h).1))).trans (HXB'.out.wide (fun b _ h => (HD2.out _ h).1))).trans (hXC.wide (fun b _ h => (HD3.out _ h).1))).trans (Fx.of_out oe (fun b h1 h2 _ => by omega)) |>.out0 (fun b h => h)
        have HFIN := hid_mk fin
        clear fin
        by_cases hi1 : 1 < i
        · have q1 : (1 : Int) < (i : Int) := by omega
          have hsp : bdy (j + 1) = bdy j ++ [32, u] := by show bdy j ++ sepd (j + 1) = _; unfold sepd; rw [if_pos (by have := HIJ.out; omega), hub]
          have ha0 := bS_add [32] [u] (by simp only [List.length_cons, List.length_nil]; omega)
          have ha1 := bS_add (40 :: bdy j) [32, u] (by have := HJ.out; simp only [List.length_cons, List.length_nil]; omega)
          have hb1 := bS_add (35 :: 48 :: 61 :: 40 :: bdy j) [32, u] (by have := HJ.out; simp only [List.length_cons, List.length_nil]; omega)
          change ∀ W, (Op.stringOp .add ⟨#[32]⟩ ⟨#[u]⟩).run Tryd.prog W = .ok (.string (bS [32, u])) W at ha0
          change ∀ W, (Op.stringOp .add (bS (cL j)) ⟨#[35, 38]⟩).run Tryd.prog W = .ok (.string (bS (cL j ++ [35, 38]))) W at hc1
          change ∀ W, (Op.stringOp .add (bS (40 :: bdy j)) (bS [32, u])).run Tryd.prog W = .ok (.string (bS (40 :: (bdy j ++ [32, u])))) W at ha1
          change ∀ W, (Op.stringOp .add (bS (35 :: 48 :: 61 :: 40 :: bdy j)) (bS [32, u])).run Tryd.prog W = .ok (.string (bS (35 :: 48 :: 61 :: 40 :: (bdy j ++ [32, u])))) W at hb1
          rw [← hsp] at ha1 hb1
          have HSP := hid_mk hsp
          clear hub hbl hcl hi1 hsp
          go_wp2_with (at_builtin; refine wpList_app rfl _ _ 23 rfl rfl rfl hrun ?_)
          obtain ⟨SA', SB', SC', u1, v1, u2, v2, u3, v3, hL'⟩ := HFIN.out _ ((Out.refl _ _ _).alloc _)
          exact ⟨⟨i + 1, j + 1, SA', SB', SC', u1, v1, u2, v2, u3, v3, rfl, by have := HIJ.out; omega, HJN.out, rfl, rfl, rfl, hL'⟩, by simp [intOf]; omega⟩
        · have q1 : ¬ (1 : Int) < (i : Int) := by omega
          have hsp : bdy (j + 1) = bdy j ++ [u] := by show bdy j ++ sepd (j + 1) = _; unfold sepd; rw [if_neg (by have := HIJ.out; omega), hub]
          have ha1 := bS_add (40 :: bdy j) [u] (by have := HJ.out; simp only [List.length_cons, List.length_nil]; omega)
          have hb1 := bS_add (35 :: 48 :: 61 :: 40 :: bdy j) [u] (by have := HJ.out; simp only [List.length_cons, List.length_nil]; omega)
          change ∀ W, (Op.stringOp .add (bS (cL j)) ⟨#[35, 38]⟩).run Tryd.prog W = .ok (.string (bS (cL j ++ [35, 38]))) W at hc1
          change ∀ W, (Op.stringOp .add (bS (40 :: bdy j)) ⟨#[u]⟩).run Tryd.prog W = .ok (.string (bS (40 :: (bdy j ++ [u])))) W at ha1
          change ∀ W, (Op.stringOp .add (bS (35 :: 48 :: 61 :: 40 :: bdy j)) ⟨#[u]⟩).run Tryd.prog W = .ok (.string (bS (35 :: 48 :: 61 :: 40 :: (bdy j ++ [u])))) W at hb1
          rw [← hsp] at ha1 hb1
          clear hub hbl hcl hi1 hsp
          go_wp2_with (at_builtin; refine wpList_app rfl _ _ 23 rfl rfl rfl hrun ?_)
          obtain ⟨SA', SB', SC', u1, v1, u2, v2, u3, v3, hL'⟩ := HFIN.out _ ((Out.refl _ _ _).alloc _)
          exact ⟨⟨i + 1, j + 1, SA', SB', SC', u1, v1, u2, v2, u3, v3, rfl, by have := HIJ.out; omega, HJN.out, rfl, rfl, rfl, hL'⟩, by simp [intOf]; omega⟩
    · obtain rfl : N = j := by omega
      have e1 : (N : Int) < (i : Int) := by omega
      obtain ⟨hN1, hN2, hN3, hAB, hAC, hBC, oW⟩ := hL
      obtain ⟨L1, rfl, hG1⟩ := hN1.whole HN.out.1
      obtain ⟨L2, rfl, hG2⟩ := hN2.whole HN.out.1
      obtain ⟨L3, rfl, hG3⟩ := hN3.whole HN.out.1
      have HN1 := hid_mk hN1
      have HN2 := hid_mk hN2
      have HN3 := hid_mk hN3
      have HWR := hid_mk oW
      have hbl := bdy_len N
      have hcl := cL_len N
      have hn6 := HN.out.2
      have ha1 := bS_add (40 :: bdy N) [41] (by simp only [List.length_cons, List.length_nil]; omega)
      have hb1 := bS_add (35 :: 48 :: 61 :: 40 :: bdy N) [32, 46, 32, 35, 48, 35, 41] (by simp only [List.length_cons, List.length_nil]; omega)
      have hc1 := bS_add (cL N) [40, 41] (by simp only [List.length_cons, List.length_nil]; omega)
      change ∀ W, (Op.stringOp .add (bS (40 :: bdy N)) ⟨#[41]⟩).run Tryd.prog W = .ok (.string (bS (40 :: (bdy N ++ [41])))) W at ha1
      change ∀ W, (Op.stringOp .add (bS (35 :: 48 :: 61 :: 40 :: bdy N)) ⟨#[32, 46, 32, 35, 48, 35, 41]⟩).run Tryd.prog W = .ok (.string (bS (35 :: 48 :: 61 :: 40 :: (bdy N ++ [32, 46, 32, 35, 48, 35, 41])))) W at hb1
      change ∀ W, (Op.stringOp .add (bS (cL N)) ⟨#[40, 41]⟩).run Tryd.prog W = .ok (.string (bS (cL N ++ [40, 41]))) W at hc1
      clear hij hj hN1 hN2 hN3 hAB hAC hBC oW HL HL0 HJ HIJ hjn hbl hcl
      rcases (show 2 * N + 1 ≤ 500 ∨ (500 < 2 * N + 1 ∧ N + 1 ≤ 500) ∨ 500 < N + 1 from by omega) with hc | hc | hc
      · skip
        have q3 : ¬ (500 : Int) < 2 * (N : Int) + 1 := by omega
        have q4 : ¬ (500 : Int) < (N : Int) + 1 := by omega
        have hT1 : txtS 1 N false = bS (40 :: (bdy N ++ [41])) := (txt_list HN.out.1).trans (if_pos (by omega))
        have hT2 : txtS 1 N true = bS (35 :: 48 :: 61 :: 40 :: (bdy N ++ [32, 46, 32, 35, 48, 35, 41])) := (txt_ring HN.out.1).trans (if_pos (by omega))
        have hT3 : txtS 2 N false = bS (cL N ++ [40, 41]) := (txt_boxes HN.out.1).trans (if_pos (by omega))
        have HG1 : Hid (∀ w, Out 0 0 wr w → Calls Tryd.prog 8 #[.agg #[.slice (some ⟨L1, 0, none⟩) N c1, .slice none 0 0], .agg #[.int .i64 2, .int .i64 1]] w fun e w' => e = .returned (.tuple #[.string (bS (40 :: (bdy N ++ [41]))), .agg #[.int .i64 0, .int .i64 0]]) ∧ Out 0 0 w w') := hid_mk (fun w o => hT1 ▸ graph_chain (.inl rfl) (fun h => rfl) HN.out (hG1.kept o) (HT.out.out (HWR.out.trans o)) (Nat.le_trans H8.out (HWR.out.trans o).size))
        have HG2 : Hid (∀ w, Out 0 0 wr w → Calls Tryd.prog 8 #[.agg #[.slice (some ⟨L2, 0, none⟩) N c2, .slice none 0 0], .agg #[.int .i64 2, .int .i64 1]] w fun e w' => e = .returned (.tuple #[.string (bS (35 :: 48 :: 61 :: 40 :: (bdy N ++ [32, 46, 32, 35, 48, 35, 41]))), .agg #[.int .i64 0, .int .i64 0]]) ∧ Out 0 0 w w') := hid_mk (fun w o => hT2 ▸ graph_chain (.inl rfl) (fun h => absurd h (by decide)) HN.out (hG2.kept o) (HT.out.out (HWR.out.trans o)) (Nat.le_trans H8.out (HWR.out.trans o).size))
        have HG3 : Hid (∀ w, Out 0 0 wr w → Calls Tryd.prog 8 #[.agg #[.slice (some ⟨L3, 0, none⟩) N c3, .slice none 0 0], .agg #[.int .i64 2, .int .i64 1]] w fun e w' => e = .returned (.tuple #[.string (bS (cL N ++ [40, 41])), .agg #[.int .i64 0, .int .i64 0]]) ∧ Out 0 0 w w') := hid_mk (fun w o => hT3 ▸ graph_chain (.inr rfl) (fun _ => rfl) HN.out (hG3.kept o) (HT.out.out (HWR.out.trans o)) (Nat.le_trans H8.out (HWR.out.trans o).size))
        clear hT1 hT2 hT3 hG1 hG2 hG3
        go_wp2_with fail
        rename_i K1 hK1
        have oR1 : Out 0 0 wr wr := Out.refl _ _ _
        have HOR1s := hid_mk oR1
        have g0 := HN1.out.cell0
        have g1 := HN1.out.cell1
        replace g0 := oR1.cell g0 (.inr (Nat.zero_le _))
        replace g1 := oR1.cell g1 (.inr (Nat.zero_le _))
        have hAl := cell_lt g0
        clear oR1
        apply cut1 (K := K1) (F := fun ga V => Bl V ga #[.int .i64 0, .int .i64 0] 38 ∧ Out 0 0 wr V)
        case h1 =>
          intro HC
          obtain ⟨lim33, hlm33⟩ : ∃ l, wr.heap.size = l := ⟨_, rfl⟩
          refine wp_region_held_drew (S := fun w' => w'.cell? ⟨A, 0, none⟩ = some (.slice (some ⟨L1, 0, none⟩) N c1) ∧ w'.cell? ⟨A, 1, none⟩ = some (.slice none 0 0)) (by kernel_rfl) ?hS53 (fun hHeld => ?rest53)
          case hS53 => exact ⟨g0, g1⟩
          obtain ⟨Z33, hZ⟩ : ∃ Z, wr.drew = Z := ⟨_, rfl⟩
          have oZ : Out 0 0 wr Z33 := by rw [← hZ]; exact (Out.refl 0 0 _).drew
          have oo := oZ
          rw [hZ] at hHeld ⊢
          clear hZ oZ
          refine tk 0 ?_
          refine wpAnyH_ready (rs := [1, 6]) (by kernel_rfl) (by simp) ?_
          refine AllReadyH.cons rfl (fun KK hK => ?_) ?_
          · simp only [xa, xb, xc]
            go_simp
            refine (ref_any 1 _).mono ?_
            rintro e Z33_1 ⟨rfl, q1⟩
            replace oo := oo.trans q1
            refine hK.out _ _ ?hS55 (fun hHeld2 => ?rest55)
            case hS55 => exact ⟨q1.cell hHeld.1 (.inr (Nat.zero_le _)), q1.cell hHeld.2 (.inr (Nat.zero_le _))⟩
            clear q1
            clear hK KK
            (try clear hHeld)
            have hHeld := hHeld2
            clear hHeld2
            (try simp only [Act.put, xa, xb, xc, xd, xe, xf])
            refine wpAnyH_ready (rs := [2, 6]) (by kernel_rfl) (by simp) ?_
            refine AllReadyH.cons rfl (fun KK hK => ?_) ?_
            · simp only [xa, xb, xc]
              go_simp
              refine (HG1.out _ (HOR1s.out.trans oo)).mono ?_
              rintro e Z33_1_2 ⟨rfl, q1⟩
              replace oo := oo.trans q1
              refine hK.out _ _ ?hS56 (fun hHeld2 => ?rest56)
              case hS56 => exact ⟨q1.cell hHeld.1 (.inr (Nat.zero_le _)), q1.cell hHeld.2 (.inr (Nat.zero_le _))⟩
              clear q1
              clear hK KK
              (try clear hHeld)
              have hHeld := hHeld2
              clear hHeld2
              (try simp only [Act.put, xa, xb, xc, xd, xe, xf])
              refine tk 3 ?_
              refine tk 4 ?_
              refine tk 5 ?_
              refine wpAnyH_ready (rs := [6]) (by kernel_rfl) (by simp) ?_
              refine AllReadyH.cons rfl (fun KK hK => ?_) ?_
              · simp only [xa, xb, xc]
                go_simp
                obtain ⟨ga, hgf⟩ : ∃ g, Z33_1_2.heap.size = g := ⟨_, rfl⟩
                obtain ⟨Z33_1_2_6, hY⟩ : ∃ V, Z33_1_2.alloc (.cells #[.int .i64 0, .int .i64 0] 38) = V := ⟨_, rfl⟩
                have qA : Out 0 0 Z33_1_2 Z33_1_2_6 := by rw [← hY]; exact (Out.refl 0 0 _).alloc _
                have f_ga : Bl Z33_1_2_6 ga #[.int .i64 0, .int .i64 0] 38 := by rw [← hY, ← hgf]; exact Bl.new _ _ _
                have hl_ga : lim33 ≤ ga := by rw [← hgf, ← hlm33]; exact oo.size
                (try rw [hY])
                (try rw [hgf])
                clear hY hgf
                replace oo := oo.trans qA
                refine hK.out _ _ ?hS60 (fun hHeld2 => ?rest60)
                case hS60 => exact ⟨qA.cell hHeld.1 (.inr (Nat.zero_le _)), qA.cell hHeld.2 (.inr (Nat.zero_le _))⟩
                clear qA
                clear hK KK
                (try clear hHeld)
                have hHeld := hHeld2
                clear hHeld2
                (try simp only [Act.put, xa, xb, xc, xd, xe, xf])
                refine tk 7 ?_
                refine wpAnyH_ready (rs := [8]) (by kernel_rfl) (by simp) ?_
                refine AllReadyH.cons rfl (fun KK hK => ?_) ?_
                · simp only [xa, xb, xc]
                  have y0 := f_ga.cell (i := 0) rfl
                  have z0 := f_ga.frozen 0
                  have y1 := f_ga.cell (i := 1) rfl
                  have z1 := f_ga.frozen 1
                  go_simp
                  clear y0 z0 y1 z1
                  obtain ⟨Z33_1_2_6_8, hY⟩ : ∃ V, ((Z33_1_2_6.setCell ⟨ga, 0, none⟩ (.int .i64 0)).setCell ⟨ga, 1, none⟩ (.int .i64 0)) = V := ⟨_, rfl⟩
                  have qS : Out ga (ga + 1) Z33_1_2_6 Z33_1_2_6_8 := by rw [← hY]; exact ((Out.refl _ _ _).setCell (p := ⟨ga, 0, none⟩) (.inl ⟨Nat.le_refl _, Nat.lt_succ_self _⟩) _).setCell (p := ⟨ga, 1, none⟩) (.inl ⟨Nat.le_refl _, Nat.lt_succ_self _⟩) _
                  replace f_ga : Bl Z33_1_2_6_8 ga #[.int .i64 0, .int .i64 0] 38 := by rw [← hY]; exact ((f_ga.set 0 (.int .i64 0)).set 1 (.int .i64 0))
                  (try rw [hY])
                  clear hY
                  replace oo := oo.past qS (by omega)
                  refine hK.out _ _ ?hS62 (fun hHeld2 => ?rest62)
                  case hS62 => exact ⟨qS.cell hHeld.1 (by omega), qS.cell hHeld.2 (by omega)⟩
                  clear qS
                  clear hK KK
                  (try clear hHeld)
                  have hHeld := hHeld2
                  clear hHeld2
                  (try simp only [Act.put, xa, xb, xc, xd, xe, xf])
                  refine wpAnyH_done (by kernel_rfl) ?_ _
                  exact HC ga _ ⟨f_ga, oo⟩
                · exact AllReadyH.nil
              · exact AllReadyH.nil
            · refine AllReadyH.cons rfl (fun KK hK => ?_) ?_
              · simp only [xa, xb, xc]
                go_simp
                obtain ⟨ga, hgf⟩ : ∃ g, Z33_1.heap.size = g := ⟨_, rfl⟩
                obtain ⟨Z33_1_6, hY⟩ : ∃ V, Z33_1.alloc (.cells #[.int .i64 0, .int .i64 0] 38) = V := ⟨_, rfl⟩
                have qA : Out 0 0 Z33_1 Z33_1_6 := by rw [← hY]; exact (Out.refl 0 0 _).alloc _
                have f_ga : Bl Z33_1_6 ga #[.int .i64 0, .int .i64 0] 38 := by rw [← hY, ← hgf]; exact Bl.new _ _ _
                have hl_ga : lim33 ≤ ga := by rw [← hgf, ← hlm33]; exact oo.size
                (try rw [hY])
                (try rw [hgf])
                clear hY hgf
                replace oo := oo.trans qA
                refine hK.out _ _ ?hS63 (fun hHeld2 => ?rest63)
                case hS63 => exact ⟨qA.cell hHeld.1 (.inr (Nat.zero_le _)), qA.cell hHeld.2 (.inr (Nat.zero_le _))⟩
                clear qA
                clear hK KK
                (try clear hHeld)
                have hHeld := hHeld2
                clear hHeld2
                (try simp only [Act.put, xa, xb, xc, xd, xe, xf])
                refine wpAnyH_ready (rs := [2]) (by kernel_rfl) (by simp) ?_
                refine AllReadyH.cons rfl (fun KK hK => ?_) ?_
                · simp only [xa, xb, xc]
                  go_simp
                  refine (HG1.out _ (HOR1s.out.trans oo)).mono ?_
                  rintro e Z33_1_6_2 ⟨rfl, q1⟩
                  replace f_ga := f_ga.kept q1 (.inr (Nat.zero_le _))
                  replace oo := oo.trans q1
                  refine hK.out _ _ ?hS64 (fun hHeld2 => ?rest64)
                  case hS64 => exact ⟨q1.cell hHeld.1 (.inr (Nat.zero_le _)), q1.cell hHeld.2 (.inr (Nat.zero_le _))⟩
                  clear q1
                  clear hK KK
                  (try clear hHeld)
                  have hHeld := hHeld2
                  clear hHeld2
                  (try simp only [Act.put, xa, xb, xc, xd, xe, xf])
                  refine tk 3 ?_
                  refine tk 4 ?_
                  refine tk 5 ?_
                  refine tk 7 ?_
                  refine wpAnyH_ready (rs := [8]) (by kernel_rfl) (by simp) ?_
                  refine AllReadyH.cons rfl (fun KK hK => ?_) ?_
                  · simp only [xa, xb, xc]
                    have y0 := f_ga.cell (i := 0) rfl
                    have z0 := f_ga.frozen 0
                    have y1 := f_ga.cell (i := 1) rfl
                    have z1 := f_ga.frozen 1
                    go_simp
                    clear y0 z0 y1 z1
                    obtain ⟨Z33_1_6_2_8, hY⟩ : ∃ V, ((Z33_1_6_2.setCell ⟨ga, 0, none⟩ (.int .i64 0)).setCell ⟨ga, 1, none⟩ (.int .i64 0)) = V := ⟨_, rfl⟩
                    have qS : Out ga (ga + 1) Z33_1_6_2 Z33_1_6_2_8 := by rw [← hY]; exact ((Out.refl _ _ _).setCell (p := ⟨ga, 0, none⟩) (.inl ⟨Nat.le_refl _, Nat.lt_succ_self _⟩) _).setCell (p := ⟨ga, 1, none⟩) (.inl ⟨Nat.le_refl _, Nat.lt_succ_self _⟩) _
                    replace f_ga : Bl Z33_1_6_2_8 ga #[.int .i64 0, .int .i64 0] 38 := by rw [← hY]; exact ((f_ga.set 0 (.int .i64 0)).set 1 (.int .i64 0))
                    (try rw [hY])
                    clear hY
                    replace oo := oo.past qS (by omega)
                    refine hK.out _ _ ?hS69 (fun hHeld2 => ?rest69)
                    case hS69 => exact ⟨qS.cell hHeld.1 (by omega), qS.cell hHeld.2 (by omega)⟩
                    clear qS
                    clear hK KK
                    (try clear hHeld)
                    have hHeld := hHeld2
                    clear hHeld2
                    (try simp only [Act.put, xa, xb, xc, xd, xe, xf])
                    refine wpAnyH_done (by kernel_rfl) ?_ _
                    exact HC ga _ ⟨f_ga, oo⟩
                  · exact AllReadyH.nil
                · exact AllReadyH.nil
              · exact AllReadyH.nil
          · refine AllReadyH.cons rfl (fun KK hK => ?_) ?_
            · simp only [xa, xb, xc]
              go_simp
              obtain ⟨ga, hgf⟩ : ∃ g, Z33.heap.size = g := ⟨_, rfl⟩
              obtain ⟨Z33_6, hY⟩ : ∃ V, Z33.alloc (.cells #[.int .i64 0, .int .i64 0] 38) = V := ⟨_, rfl⟩
              have qA : Out 0 0 Z33 Z33_6 := by rw [← hY]; exact (Out.refl 0 0 _).alloc _
              have f_ga : Bl Z33_6 ga #[.int .i64 0, .int .i64 0] 38 := by rw [← hY, ← hgf]; exact Bl.new _ _ _
              have hl_ga : lim33 ≤ ga := by rw [← hgf, ← hlm33]; exact oo.size
              (try rw [hY])
              (try rw [hgf])
              clear hY hgf
              replace oo := oo.trans qA
              refine hK.out _ _ ?hS70 (fun hHeld2 => ?rest70)
              case hS70 => exact ⟨qA.cell hHeld.1 (.inr (Nat.zero_le _)), qA.cell hHeld.2 (.inr (Nat.zero_le _))⟩
              clear qA
              clear hK KK
              (try clear hHeld)
              have hHeld := hHeld2
              clear hHeld2
              (try simp only [Act.put, xa, xb, xc, xd, xe, xf])
              refine wpAnyH_ready (rs := [1]) (by kernel_rfl) (by simp) ?_
              refine AllReadyH.cons rfl (fun KK hK => ?_) ?_
              · simp only [xa, xb, xc]
                go_simp
                refine (ref_any 1 _).mono ?_
                rintro e Z33_6_1 ⟨rfl, q1⟩
                replace f_ga := f_ga.kept q1 (.inr (Nat.zero_le _))
                replace oo := oo.trans q1
                refine hK.out _ _ ?hS71 (fun hHeld2 => ?rest71)
                case hS71 => exact ⟨q1.cell hHeld.1 (.inr (Nat.zero_le _)), q1.cell hHeld.2 (.inr (Nat.zero_le _))⟩
                clear q1
                clear hK KK
                (try clear hHeld)
                have hHeld := hHeld2
                clear hHeld2
                (try simp only [Act.put, xa, xb, xc, xd, xe, xf])
                refine wpAnyH_ready (rs := [2]) (by kernel_rfl) (by simp) ?_
                refine AllReadyH.cons rfl (fun KK hK => ?_) ?_
                · simp only [xa, xb, xc]
                  go_simp
                  refine (HG1.out _ (HOR1s.out.trans oo)).mono ?_
                  rintro e Z33_6_1_2 ⟨rfl, q1⟩
                  replace f_ga := f_ga.kept q1 (.inr (Nat.zero_le _))
                  replace oo := oo.trans q1
                  refine hK.out _ _ ?hS72 (fun hHeld2 => ?rest72)
                  case hS72 => exact ⟨q1.cell hHeld.1 (.inr (Nat.zero_le _)), q1.cell hHeld.2 (.inr (Nat.zero_le _))⟩
                  clear q1
                  clear hK KK
                  (try clear hHeld)
                  have hHeld := hHeld2
                  clear hHeld2
                  (try simp only [Act.put, xa, xb, xc, xd, xe, xf])
                  refine tk 3 ?_
                  refine tk 4 ?_
                  refine tk 5 ?_
                  refine tk 7 ?_
                  refine wpAnyH_ready (rs := [8]) (by kernel_rfl) (by simp) ?_
                  refine AllReadyH.cons rfl (fun KK hK => ?_) ?_
                  · simp only [xa, xb, xc]
                    have y0 := f_ga.cell (i := 0) rfl
                    have z0 := f_ga.frozen 0
                    have y1 := f_ga.cell (i := 1) rfl
                    have z1 := f_ga.frozen 1
                    go_simp
                    clear y0 z0 y1 z1
                    obtain ⟨Z33_6_1_2_8, hY⟩ : ∃ V, ((Z33_6_1_2.setCell ⟨ga, 0, none⟩ (.int .i64 0)).setCell ⟨ga, 1, none⟩ (.int .i64 0)) = V := ⟨_, rfl⟩
                    have qS : Out ga (ga + 1) Z33_6_1_2 Z33_6_1_2_8 := by rw [← hY]; exact ((Out.refl _ _ _).setCell (p := ⟨ga, 0, none⟩) (.inl ⟨Nat.le_refl _, Nat.lt_succ_self _⟩) _).setCell (p := ⟨ga, 1, none⟩) (.inl ⟨Nat.le_refl _, Nat.lt_succ_self _⟩) _
                    replace f_ga : Bl Z33_6_1_2_8 ga #[.int .i64 0, .int .i64 0] 38 := by rw [← hY]; exact ((f_ga.set 0 (.int .i64 0)).set 1 (.int .i64 0))
                    (try rw [hY])
                    clear hY
                    replace oo := oo.past qS (by omega)
                    refine hK.out _ _ ?hS77 (fun hHeld2 => ?rest77)
                    case hS77 => exact ⟨qS.cell hHeld.1 (by omega), qS.cell hHeld.2 (by omega)⟩
                    clear qS
                    clear hK KK
                    (try clear hHeld)
                    have hHeld := hHeld2
                    clear hHeld2
                    (try simp only [Act.put, xa, xb, xc, xd, xe, xf])
                    refine wpAnyH_done (by kernel_rfl) ?_ _
                    exact HC ga _ ⟨f_ga, oo⟩
                  · exact AllReadyH.nil
                · exact AllReadyH.nil
              · exact AllReadyH.nil
            · exact AllReadyH.nil
        case h2 =>
          rintro ga X1 ⟨kF1, oV1⟩
          refine hK1 _ _ ?_
          have HOR1 := hid_mk (HOR1s.out.trans oV1)
          have HF1 := hid_mk kF1
          clear kF1 oV1 g0 g1 hAl hK1
          go_wp2_with fail
          rename_i K2 hK2
          have oR2 : Out 0 0 wr X1 := HOR1.out
          have HOR2s := hid_mk oR2
          have g0 := HN2.out.cell0
          have g1 := HN2.out.cell1
          replace g0 := oR2.cell g0 (.inr (Nat.zero_le _))
          replace g1 := oR2.cell g1 (.inr (Nat.zero_le _))
          have hAl := cell_lt g0
          clear oR2
          apply cut1 (K := K2) (F := fun gb V => Bl V gb #[.int .i64 0, .int .i64 0] 38 ∧ Out 0 0 X1 V)
          case h1 =>
            intro HC
            obtain ⟨lim34, hlm34⟩ : ∃ l, X1.heap.size = l := ⟨_, rfl⟩
            refine wp_region_held_drew (S := fun w' => w'.cell? ⟨A + 1, 0, none⟩ = some (.slice (some ⟨L2, 0, none⟩) N c2) ∧ w'.cell? ⟨A + 1, 1, none⟩ = some (.slice none 0 0)) (by kernel_rfl) ?hS78 (fun hHeld => ?rest78)
            case hS78 => exact ⟨g0, g1⟩
            obtain ⟨Z34, hZ⟩ : ∃ Z, X1.drew = Z := ⟨_, rfl⟩
            have oZ : Out 0 0 X1 Z34 := by rw [← hZ]; exact (Out.refl 0 0 _).drew
            have oo := oZ
            rw [hZ] at hHeld ⊢
            clear hZ oZ
            refine tk 0 ?_
            refine wpAnyH_ready (rs := [1, 6]) (by kernel_rfl) (by simp) ?_
            refine AllReadyH.cons rfl (fun KK hK => ?_) ?_
            · simp only [xa, xb, xc]
              go_simp
              refine (ref_any 1 _).mono ?_
              rintro e Z34_1 ⟨rfl, q1⟩
              replace oo := oo.trans q1
              refine hK.out _ _ ?hS80 (fun hHeld2 => ?rest80)
              case hS80 => exact ⟨q1.cell hHeld.1 (.inr (Nat.zero_le _)), q1.cell hHeld.2 (.inr (Nat.zero_le _))⟩
              clear q1
              clear hK KK
              (try clear hHeld)
              have hHeld := hHeld2
              clear hHeld2
              (try simp only [Act.put, xa, xb, xc, xd, xe, xf])
              refine wpAnyH_ready (rs := [2, 6]) (by kernel_rfl) (by simp) ?_
              refine AllReadyH.cons rfl (fun KK hK => ?_) ?_
              · simp only [xa, xb, xc]
                go_simp
                refine (HG2.out _ (HOR2s.out.trans oo)).mono ?_
                rintro e Z34_1_2 ⟨rfl, q1⟩
                replace oo := oo.trans q1
                refine hK.out _ _ ?hS81 (fun hHeld2 => ?rest81)
                case hS81 => exact ⟨q1.cell hHeld.1 (.inr (Nat.zero_le _)), q1.cell hHeld.2 (.inr (Nat.zero_le _))⟩
                clear q1
                clear hK KK
                (try clear hHeld)
                have hHeld := hHeld2
                clear hHeld2
                (try simp only [Act.put, xa, xb, xc, xd, xe, xf])
                refine tk 3 ?_
                refine tk 4 ?_
                refine tk 5 ?_
                refine wpAnyH_ready (rs := [6]) (by kernel_rfl) (by simp) ?_
                refine AllReadyH.cons rfl (fun KK hK => ?_) ?_
                · simp only [xa, xb, xc]
                  go_simp
                  obtain ⟨gb, hgf⟩ : ∃ g, Z34_1_2.heap.size = g := ⟨_, rfl⟩
                  obtain ⟨Z34_1_2_6, hY⟩ : ∃ V, Z34_1_2.alloc (.cells #[.int .i64 0, .int .i64 0] 38) = V := ⟨_, rfl⟩
                  have qA : Out 0 0 Z34_1_2 Z34_1_2_6 := by rw [← hY]; exact (Out.refl 0 0 _).alloc _
                  have f_gb : Bl Z34_1_2_6 gb #[.int .i64 0, .int .i64 0] 38 := by rw [← hY, ← hgf]; exact Bl.new _ _ _
                  have hl_gb : lim34 ≤ gb := by rw [← hgf, ← hlm34]; exact oo.size
                  (try rw [hY])
                  (try rw [hgf])
                  clear hY hgf
                  replace oo := oo.trans qA
                  refine hK.out _ _ ?hS85 (fun hHeld2 => ?rest85)
                  case hS85 => exact ⟨qA.cell hHeld.1 (.inr (Nat.zero_le _)), qA.cell hHeld.2 (.inr (Nat.zero_le _))⟩
                  clear qA
                  clear hK KK
                  (try clear hHeld)
                  have hHeld := hHeld2
                  clear hHeld2
                  (try simp only [Act.put, xa, xb, xc, xd, xe, xf])
                  refine tk 7 ?_
                  refine wpAnyH_ready (rs := [8]) (by kernel_rfl) (by simp) ?_
                  refine AllReadyH.cons rfl (fun KK hK => ?_) ?_
                  · simp only [xa, xb, xc]
                    have y0 := f_gb.cell (i := 0) rfl
                    have z0 := f_gb.frozen 0
                    have y1 := f_gb.cell (i := 1) rfl
                    have z1 := f_gb.frozen 1
                    go_simp
                    clear y0 z0 y1 z1
                    obtain ⟨Z34_1_2_6_8, hY⟩ : ∃ V, ((Z34_1_2_6.setCell ⟨gb, 0, none⟩ (.int .i64 0)).setCell ⟨gb, 1, none⟩ (.int .i64 0)) = V := ⟨_, rfl⟩
                    have qS : Out gb (gb + 1) Z34_1_2_6 Z34_1_2_6_8 := by rw [← hY]; exact ((Out.refl _ _ _).setCell (p := ⟨gb, 0, none⟩) (.inl ⟨Nat.le_refl _, Nat.lt_succ_self _⟩) _).setCell (p := ⟨gb, 1, none⟩) (.inl ⟨Nat.le_refl _, Nat.lt_succ_self _⟩) _
                    replace f_gb : Bl Z34_1_2_6_8 gb #[.int .i64 0, .int .i64 0] 38 := by rw [← hY]; exact ((f_gb.set 0 (.int .i64 0)).set 1 (.int .i64 0))
                    (try rw [hY])
                    clear hY
                    replace oo := oo.past qS (by omega)
                    refine hK.out _ _ ?hS87 (fun hHeld2 => ?rest87)
                    case hS87 => exact ⟨qS.cell hHeld.1 (by omega), qS.cell hHeld.2 (by omega)⟩
                    clear qS
                    clear hK KK
                    (try clear hHeld)
                    have hHeld := hHeld2
                    clear hHeld2
                    (try simp only [Act.put, xa, xb, xc, xd, xe, xf])
                    refine wpAnyH_done (by kernel_rfl) ?_ _
                    exact HC gb _ ⟨f_gb, oo⟩
                  · exact AllReadyH.nil
                · exact AllReadyH.nil
              · refine AllReadyH.cons rfl (fun KK hK => ?_) ?_
                · simp only [xa, xb, xc]
                  go_simp
                  obtain ⟨gb, hgf⟩ : ∃ g, Z34_1.heap.size = g := ⟨_, rfl⟩
                  obtain ⟨Z34_1_6, hY⟩ : ∃ V, Z34_1.alloc (.cells #[.int .i64 0, .int .i64 0] 38) = V := ⟨_, rfl⟩
                  have qA : Out 0 0 Z34_1 Z34_1_6 := by rw [← hY]; exact (Out.refl 0 0 _).alloc _
                  have f_gb : Bl Z34_1_6 gb #[.int .i64 0, .int .i64 0] 38 := by rw [← hY, ← hgf]; exact Bl.new _ _ _
                  have hl_gb : lim34 ≤ gb := by rw [← hgf, ← hlm34]; exact oo.size
                  (try rw [hY])
                  (try rw [hgf])
                  clear hY hgf
                  replace oo := oo.trans qA
                  refine hK.out _ _ ?hS88 (fun hHeld2 => ?rest88)
                  case hS88 => exact ⟨qA.cell hHeld.1 (.inr (Nat.zero_le _)), qA.cell hHeld.2 (.inr (Nat.zero_le _))⟩
                  clear qA
                  clear hK KK
                  (try clear hHeld)
                  have hHeld := hHeld2
                  clear hHeld2
                  (try simp only [Act.put, xa, xb, xc, xd, xe, xf])
                  refine wpAnyH_ready (rs := [2]) (by kernel_rfl) (by simp) ?_
                  refine AllReadyH.cons rfl (fun KK hK => ?_) ?_
                  · simp only [xa, xb, xc]
                    go_simp
                    refine (HG2.out _ (HOR2s.out.trans oo)).mono ?_
                    rintro e Z34_1_6_2 ⟨rfl, q1⟩
                    replace f_gb := f_gb.kept q1 (.inr (Nat.zero_le _))
                    replace oo := oo.trans q1
                    refine hK.out _ _ ?hS89 (fun hHeld2 => ?rest89)
                    case hS89 => exact ⟨q1.cell hHeld.1 (.inr (Nat.zero_le _)), q1.cell hHeld.2 (.inr (Nat.zero_le _))⟩
                    clear q1
                    clear hK KK
                    (try clear hHeld)
                    have hHeld := hHeld2
                    clear hHeld2
                    (try simp only [Act.put, xa, xb, xc, xd, xe, xf])
                    refine tk 3 ?_
                    refine tk 4 ?_
                    refine tk 5 ?_
                    refine tk 7 ?_
                    refine wpAnyH_ready (rs := [8]) (by kernel_rfl) (by simp) ?_
                    refine AllReadyH.cons rfl (fun KK hK => ?_) ?_
                    · simp only [xa, xb, xc]
                      have y0 := f_gb.cell (i := 0) rfl
                      have z0 := f_gb.frozen 0
                      have y1 := f_gb.cell (i := 1) rfl
                      have z1 := f_gb.frozen 1
                      go_simp
                      clear y0 z0 y1 z1
                      obtain ⟨Z34_1_6_2_8, hY⟩ : ∃ V, ((Z34_1_6_2.setCell ⟨gb, 0, none⟩ (.int .i64 0)).setCell ⟨gb, 1, none⟩ (.int .i64 0)) = V := ⟨_, rfl⟩
                      have qS : Out gb (gb + 1) Z34_1_6_2 Z34_1_6_2_8 := by rw [← hY]; exact ((Out.refl _ _ _).setCell (p := ⟨gb, 0, none⟩) (.inl ⟨Nat.le_refl _, Nat.lt_succ_self _⟩) _).setCell (p := ⟨gb, 1, none⟩) (.inl ⟨Nat.le_refl _, Nat.lt_succ_self _⟩) _
                      replace f_gb : Bl Z34_1_6_2_8 gb #[.int .i64 0, .int .i64 0] 38 := by rw [← hY]; exact ((f_gb.set 0 (.int .i64 0)).set 1 (.int .i64 0))
                      (try rw [hY])
                      clear hY
                      replace oo := oo.past qS (by omega)
                      refine hK.out _ _ ?hS94 (fun hHeld2 => ?rest94)
                      case hS94 => exact ⟨qS.cell hHeld.1 (by omega), qS.cell hHeld.2 (by omega)⟩
                      clear qS
                      clear hK KK
                      (try clear hHeld)
                      have hHeld := hHeld2
                      clear hHeld2
                      (try simp only [Act.put, xa, xb, xc, xd, xe, xf])
                      refine wpAnyH_done (by kernel_rfl) ?_ _
                      exact HC gb _ ⟨f_gb, oo⟩
                    · exact AllReadyH.nil
                  · exact AllReadyH.nil
                · exact AllReadyH.nil
            · refine AllReadyH.cons rfl (fun KK hK => ?_) ?_
              · simp only [xa, xb, xc]
                go_simp
                obtain ⟨gb, hgf⟩ : ∃ g, Z34.heap.size = g := ⟨_, rfl⟩
                obtain ⟨Z34_6, hY⟩ : ∃ V, Z34.alloc (.cells #[.int .i64 0, .int .i64 0] 38) = V := ⟨_, rfl⟩
                have qA : Out 0 0 Z34 Z34_6 := by rw [← hY]; exact (Out.refl 0 0 _).alloc _
                have f_gb : Bl Z34_6 gb #[.int .i64 0, .int .i64 0] 38 := by rw [← hY, ← hgf]; exact Bl.new _ _ _
                have hl_gb : lim34 ≤ gb := by rw [← hgf, ← hlm34]; exact oo.size
                (try rw [hY])
                (try rw [hgf])
                clear hY hgf
                replace oo := oo.trans qA
                refine hK.out _ _ ?hS95 (fun hHeld2 => ?rest95)
                case hS95 => exact ⟨qA.cell hHeld.1 (.inr (Nat.zero_le _)), qA.cell hHeld.2 (.inr (Nat.zero_le _))⟩
                clear qA
                clear hK KK
                (try clear hHeld)
                have hHeld := hHeld2
                clear hHeld2
                (try simp only [Act.put, xa, xb, xc, xd, xe, xf])
                refine wpAnyH_ready (rs := [1]) (by kernel_rfl) (by simp) ?_
                refine AllReadyH.cons rfl (fun KK hK => ?_) ?_
                · simp only [xa, xb, xc]
                  go_simp
                  refine (ref_any 1 _).mono ?_
                  rintro e Z34_6_1 ⟨rfl, q1⟩
                  replace f_gb := f_gb.kept q1 (.inr (Nat.zero_le _))
                  replace oo := oo.trans q1
                  refine hK.out _ _ ?hS96 (fun hHeld2 => ?rest96)
                  case hS96 => exact ⟨q1.cell hHeld.1 (.inr (Nat.zero_le _)), q1.cell hHeld.2 (.inr (Nat.zero_le _))⟩
                  clear q1
                  clear hK KK
                  (try clear hHeld)
                  have hHeld := hHeld2
                  clear hHeld2
                  (try simp only [Act.put, xa, xb, xc, xd, xe, xf])
                  refine wpAnyH_ready (rs := [2]) (by kernel_rfl) (by simp) ?_
                  refine AllReadyH.cons rfl (fun KK hK => ?_) ?_
                  · simp only [xa, xb, xc]
                    go_simp
                    refine (HG2.out _ (HOR2s.out.trans oo)).mono ?_
                    rintro e Z34_6_1_2 ⟨rfl, q1⟩
                    replace f_gb := f_gb.kept q1 (.inr (Nat.zero_le _))
                    replace oo := oo.trans q1
                    refine hK.out _ _ ?hS97 (fun hHeld2 => ?rest97)
                    case hS97 => exact ⟨q1.cell hHeld.1 (.inr (Nat.zero_le _)), q1.cell hHeld.2 (.inr (Nat.zero_le _))⟩
                    clear q1
                    clear hK KK
                    (try clear hHeld)
                    have hHeld := hHeld2
                    clear hHeld2
                    (try simp only [Act.put, xa, xb, xc, xd, xe, xf])
                    refine tk 3 ?_
                    refine tk 4 ?_
                    refine tk 5 ?_
                    refine tk 7 ?_
                    refine wpAnyH_ready (rs := [8]) (by kernel_rfl) (by simp) ?_
                    refine AllReadyH.cons rfl (fun KK hK => ?_) ?_
                    · simp only [xa, xb, xc]
                      have y0 := f_gb.cell (i := 0) rfl
                      have z0 := f_gb.frozen 0
                      have y1 := f_gb.cell (i := 1) rfl
                      have z1 := f_gb.frozen 1
                      go_simp
                      clear y0 z0 y1 z1
                      obtain ⟨Z34_6_1_2_8, hY⟩ : ∃ V, ((Z34_6_1_2.setCell ⟨gb, 0, none⟩ (.int .i64 0)).setCell ⟨gb, 1, none⟩ (.int .i64 0)) = V := ⟨_, rfl⟩
                      have qS : Out gb (gb + 1) Z34_6_1_2 Z34_6_1_2_8 := by rw [← hY]; exact ((Out.refl _ _ _).setCell (p := ⟨gb, 0, none⟩) (.inl ⟨Nat.le_refl _, Nat.lt_succ_self _⟩) _).setCell (p := ⟨gb, 1, none⟩) (.inl ⟨Nat.le_refl _, Nat.lt_succ_self _⟩) _
                      replace f_gb : Bl Z34_6_1_2_8 gb #[.int .i64 0, .int .i64 0] 38 := by rw [← hY]; exact ((f_gb.set 0 (.int .i64 0)).set 1 (.int .i64 0))
                      (try rw [hY])
                      clear hY
                      replace oo := oo.past qS (by omega)
                      refine hK.out _ _ ?hS102 (fun hHeld2 => ?rest102)
                      case hS102 => exact ⟨qS.cell hHeld.1 (by omega), qS.cell hHeld.2 (by omega)⟩
                      clear qS
                      clear hK KK
                      (try clear hHeld)
                      have hHeld := hHeld2
                      clear hHeld2
                      (try simp only [Act.put, xa, xb, xc, xd, xe, xf])
                      refine wpAnyH_done (by kernel_rfl) ?_ _
                      exact HC gb _ ⟨f_gb, oo⟩
                    · exact AllReadyH.nil
                  · exact AllReadyH.nil
                · exact AllReadyH.nil
              · exact AllReadyH.nil
          case h2 =>
            rintro gb X2 ⟨kF2, oV2⟩
            refine hK2 _ _ ?_
            have HOR2 := hid_mk (HOR2s.out.trans oV2)
            have HF2 := hid_mk kF2
            have HF1 := hid_mk (HF1.out.kept oV2 (.inr (Nat.zero_le _)))
            clear kF2 oV2 g0 g1 hAl hK2
            go_wp2_with fail
            rename_i K3 hK3
            have oR3 : Out 0 0 wr X2 := HOR2.out
            have HOR3s := hid_mk oR3
            have g0 := HN3.out.cell0
            have g1 := HN3.out.cell1
            replace g0 := oR3.cell g0 (.inr (Nat.zero_le _))
            replace g1 := oR3.cell g1 (.inr (Nat.zero_le _))
            have hAl := cell_lt g0
            clear oR3
            apply cut1 (K := K3) (F := fun gc V => Bl V gc #[.int .i64 0, .int .i64 0] 38 ∧ Out 0 0 X2 V)
            case h1 =>
              intro HC
              obtain ⟨lim35, hlm35⟩ : ∃ l, X2.heap.size = l := ⟨_, rfl⟩
              refine wp_region_held_drew (S := fun w' => w'.cell? ⟨A + 1 + 1, 0, none⟩ = some (.slice (some ⟨L3, 0, none⟩) N c3) ∧ w'.cell? ⟨A + 1 + 1, 1, none⟩ = some (.slice none 0 0)) (by kernel_rfl) ?hS103 (fun hHeld => ?rest103)
              case hS103 => exact ⟨g0, g1⟩
              obtain ⟨Z35, hZ⟩ : ∃ Z, X2.drew = Z := ⟨_, rfl⟩
              have oZ : Out 0 0 X2 Z35 := by rw [← hZ]; exact (Out.refl 0 0 _).drew
              have oo := oZ
              rw [hZ] at hHeld ⊢
              clear hZ oZ
              refine tk 0 ?_
              refine wpAnyH_ready (rs := [1, 6]) (by kernel_rfl) (by simp) ?_
              refine AllReadyH.cons rfl (fun KK hK => ?_) ?_
              · simp only [xa, xb, xc]
                go_simp
                refine (ref_any 1 _).mono ?_
                rintro e Z35_1 ⟨rfl, q1⟩
                replace oo := oo.trans q1
                refine hK.out _ _ ?hS105 (fun hHeld2 => ?rest105)
                case hS105 => exact ⟨q1.cell hHeld.1 (.inr (Nat.zero_le _)), q1.cell hHeld.2 (.inr (Nat.zero_le _))⟩
                clear q1
                clear hK KK
                (try clear hHeld)
                have hHeld := hHeld2
                clear hHeld2
                (try simp only [Act.put, xa, xb, xc, xd, xe, xf])
                refine wpAnyH_ready (rs := [2, 6]) (by kernel_rfl) (by simp) ?_
                refine AllReadyH.cons rfl (fun KK hK => ?_) ?_
                · simp only [xa, xb, xc]
                  go_simp
                  refine (HG3.out _ (HOR3s.out.trans oo)).mono ?_
                  rintro e Z35_1_2 ⟨rfl, q1⟩
                  replace oo := oo.trans q1
                  refine hK.out _ _ ?hS106 (fun hHeld2 => ?rest106)
                  case hS106 => exact ⟨q1.cell hHeld.1 (.inr (Nat.zero_le _)), q1.cell hHeld.2 (.inr (Nat.zero_le _))⟩
                  clear q1
                  clear hK KK
                  (try clear hHeld)
                  have hHeld := hHeld2
                  clear hHeld2
                  (try simp only [Act.put, xa, xb, xc, xd, xe, xf])
                  refine tk 3 ?_
                  refine tk 4 ?_
                  refine tk 5 ?_
                  refine wpAnyH_ready (rs := [6]) (by kernel_rfl) (by simp) ?_
                  refine AllReadyH.cons rfl (fun KK hK => ?_) ?_
                  · simp only [xa, xb, xc]
                    go_simp
                    obtain ⟨gc, hgf⟩ : ∃ g, Z35_1_2.heap.size = g := ⟨_, rfl⟩
                    obtain ⟨Z35_1_2_6, hY⟩ : ∃ V, Z35_1_2.alloc (.cells #[.int .i64 0, .int .i64 0] 38) = V := ⟨_, rfl⟩
                    have qA : Out 0 0 Z35_1_2 Z35_1_2_6 := by rw [← hY]; exact (Out.refl 0 0 _).alloc _
                    have f_gc : Bl Z35_1_2_6 gc #[.int .i64 0, .int .i64 0] 38 := by rw [← hY, ← hgf]; exact Bl.new _ _ _
                    have hl_gc : lim35 ≤ gc := by rw [← hgf, ← hlm35]; exact oo.size
                    (try rw [hY])
                    (try rw [hgf])
                    clear hY hgf
                    replace oo := oo.trans qA
                    refine hK.out _ _ ?hS110 (fun hHeld2 => ?rest110)
                    case hS110 => exact ⟨qA.cell hHeld.1 (.inr (Nat.zero_le _)), qA.cell hHeld.2 (.inr (Nat.zero_le _))⟩
                    clear qA
                    clear hK KK
                    (try clear hHeld)
                    have hHeld := hHeld2
                    clear hHeld2
                    (try simp only [Act.put, xa, xb, xc, xd, xe, xf])
                    refine tk 7 ?_
                    refine wpAnyH_ready (rs := [8]) (by kernel_rfl) (by simp) ?_
                    refine AllReadyH.cons rfl (fun KK hK => ?_) ?_
                    · simp only [xa, xb, xc]
                      have y0 := f_gc.cell (i := 0) rfl
                      have z0 := f_gc.frozen 0
                      have y1 := f_gc.cell (i := 1) rfl
                      have z1 := f_gc.frozen 1
                      go_simp
                      clear y0 z0 y1 z1
                      obtain ⟨Z35_1_2_6_8, hY⟩ : ∃ V, ((Z35_1_2_6.setCell ⟨gc, 0, none⟩ (.int .i64 0)).setCell ⟨gc, 1, none⟩ (.int .i64 0)) = V := ⟨_, rfl⟩
                      have qS : Out gc (gc + 1) Z35_1_2_6 Z35_1_2_6_8 := by rw [← hY]; exact ((Out.refl _ _ _).setCell (p := ⟨gc, 0, none⟩) (.inl ⟨Nat.le_refl _, Nat.lt_succ_self _⟩) _).setCell (p := ⟨gc, 1, none⟩) (.inl ⟨Nat.le_refl _, Nat.lt_succ_self _⟩) _
                      replace f_gc : Bl Z35_1_2_6_8 gc #[.int .i64 0, .int .i64 0] 38 := by rw [← hY]; exact ((f_gc.set 0 (.int .i64 0)).set 1 (.int .i64 0))
                      (try rw [hY])
                      clear hY
                      replace oo := oo.past qS (by omega)
                      refine hK.out _ _ ?hS112 (fun hHeld2 => ?rest112)
                      case hS112 => exact ⟨qS.cell hHeld.1 (by omega), qS.cell hHeld.2 (by omega)⟩
                      clear qS
                      clear hK KK
                      (try clear hHeld)
                      have hHeld := hHeld2
                      clear hHeld2
                      (try simp only [Act.put, xa, xb, xc, xd, xe, xf])
                      refine wpAnyH_done (by kernel_rfl) ?_ _
                      exact HC gc _ ⟨f_gc, oo⟩
                    · exact AllReadyH.nil
                  · exact AllReadyH.nil
                · refine AllReadyH.cons rfl (fun KK hK => ?_) ?_
                  · simp only [xa, xb, xc]
                    go_simp
                    obtain ⟨gc, hgf⟩ : ∃ g, Z35_1.heap.size = g := ⟨_, rfl⟩
                    obtain ⟨Z35_1_6, hY⟩ : ∃ V, Z35_1.alloc (.cells #[.int .i64 0, .int .i64 0] 38) = V := ⟨_, rfl⟩
                    have qA : Out 0 0 Z35_1 Z35_1_6 := by rw [← hY]; exact (Out.refl 0 0 _).alloc _
                    have f_gc : Bl Z35_1_6 gc #[.int .i64 0, .int .i64 0] 38 := by rw [← hY, ← hgf]; exact Bl.new _ _ _
                    have hl_gc : lim35 ≤ gc := by rw [← hgf, ← hlm35]; exact oo.size
                    (try rw [hY])
                    (try rw [hgf])
                    clear hY hgf
                    replace oo := oo.trans qA
                    refine hK.out _ _ ?hS113 (fun hHeld2 => ?rest113)
                    case hS113 => exact ⟨qA.cell hHeld.1 (.inr (Nat.zero_le _)), qA.cell hHeld.2 (.inr (Nat.zero_le _))⟩
                    clear qA
                    clear hK KK
                    (try clear hHeld)
                    have hHeld := hHeld2
                    clear hHeld2
                    (try simp only [Act.put, xa, xb, xc, xd, xe, xf])
                    refine wpAnyH_ready (rs := [2]) (by kernel_rfl) (by simp) ?_
                    refine AllReadyH.cons rfl (fun KK hK => ?_) ?_
                    · simp only [xa, xb, xc]
                      go_simp
                      refine (HG3.out _ (HOR3s.out.trans oo)).mono ?_
                      rintro e Z35_1_6_2 ⟨rfl, q1⟩
                      replace f_gc := f_gc.kept q1 (.inr (Nat.zero_le _))
                      replace oo := oo.trans q1
                      refine hK.out _ _ ?hS114 (fun hHeld2 => ?rest114)
                      case hS114 => exact ⟨q1.cell hHeld.1 (.inr (Nat.zero_le _)), q1.cell hHeld.2 (.inr (Nat.zero_le _))⟩
                      clear q1
                      clear hK KK
                      (try clear hHeld)
                      have hHeld := hHeld2
                      clear hHeld2
                      (try simp only [Act.put, xa, xb, xc, xd, xe, xf])
                      refine tk 3 ?_
                      refine tk 4 ?_
                      refine tk 5 ?_
                      refine tk 7 ?_
                      refine wpAnyH_ready (rs := [8]) (by kernel_rfl) (by simp) ?_
                      refine AllReadyH.cons rfl (fun KK hK => ?_) ?_
                      · simp only [xa, xb, xc]
                        have y0 := f_gc.cell (i := 0) rfl
                        have z0 := f_gc.frozen 0
                        have y1 := f_gc.cell (i := 1) rfl
                        have z1 := f_gc.frozen 1
                        go_simp
                        clear y0 z0 y1 z1
                        obtain ⟨Z35_1_6_2_8, hY⟩ : ∃ V, ((Z35_1_6_2.setCell ⟨gc, 0, none⟩ (.int .i64 0)).setCell ⟨gc, 1, none⟩ (.int .i64 0)) = V := ⟨_, rfl⟩
                        have qS : Out gc (gc + 1) Z35_1_6_2 Z35_1_6_2_8 := by rw [← hY]; exact ((Out.refl _ _ _).setCell (p := ⟨gc, 0, none⟩) (.inl ⟨Nat.le_refl _, Nat.lt_succ_self _⟩) _).setCell (p := ⟨gc, 1, none⟩) (.inl ⟨Nat.le_refl _, Nat.lt_succ_self _⟩) _
                        replace f_gc : Bl Z35_1_6_2_8 gc #[.int .i64 0, .int .i64 0] 38 := by rw [← hY]; exact ((f_gc.set 0 (.int .i64 0)).set 1 (.int .i64 0))
                        (try rw [hY])
                        clear hY
                        replace oo := oo.past qS (by omega)
                        refine hK.out _ _ ?hS119 (fun hHeld2 => ?rest119)
                        case hS119 => exact ⟨qS.cell hHeld.1 (by omega), qS.cell hHeld.2 (by omega)⟩
                        clear qS
                        clear hK KK
                        (try clear hHeld)
                        have hHeld := hHeld2
                        clear hHeld2
                        (try simp only [Act.put, xa, xb, xc, xd, xe, xf])
                        refine wpAnyH_done (by kernel_rfl) ?_ _
                        exact HC gc _ ⟨f_gc, oo⟩
                      · exact AllReadyH.nil
                    · exact AllReadyH.nil
                  · exact AllReadyH.nil
              · refine AllReadyH.cons rfl (fun KK hK => ?_) ?_
                · simp only [xa, xb, xc]
                  go_simp
                  obtain ⟨gc, hgf⟩ : ∃ g, Z35.heap.size = g := ⟨_, rfl⟩
                  obtain ⟨Z35_6, hY⟩ : ∃ V, Z35.alloc (.cells #[.int .i64 0, .int .i64 0] 38) = V := ⟨_, rfl⟩
                  have qA : Out 0 0 Z35 Z35_6 := by rw [← hY]; exact (Out.refl 0 0 _).alloc _
                  have f_gc : Bl Z35_6 gc #[.int .i64 0, .int .i64 0] 38 := by rw [← hY, ← hgf]; exact Bl.new _ _ _
                  have hl_gc : lim35 ≤ gc := by rw [← hgf, ← hlm35]; exact oo.size
                  (try rw [hY])
                  (try rw [hgf])
                  clear hY hgf
                  replace oo := oo.trans qA
                  refine hK.out _ _ ?hS120 (fun hHeld2 => ?rest120)
                  case hS120 => exact ⟨qA.cell hHeld.1 (.inr (Nat.zero_le _)), qA.cell hHeld.2 (.inr (Nat.zero_le _))⟩
                  clear qA
                  clear hK KK
                  (try clear hHeld)
                  have hHeld := hHeld2
                  clear hHeld2
                  (try simp only [Act.put, xa, xb, xc, xd, xe, xf])
                  refine wpAnyH_ready (rs := [1]) (by kernel_rfl) (by simp) ?_
                  refine AllReadyH.cons rfl (fun KK hK => ?_) ?_
                  · simp only [xa, xb, xc]
                    go_simp
                    refine (ref_any 1 _).mono ?_
                    rintro e Z35_6_1 ⟨rfl, q1⟩
                    replace f_gc := f_gc.kept q1 (.inr (Nat.zero_le _))
                    replace oo := oo.trans q1
                    refine hK.out _ _ ?hS121 (fun hHeld2 => ?rest121)
                    case hS121 => exact ⟨q1.cell hHeld.1 (.inr (Nat.zero_le _)), q1.cell hHeld.2 (.inr (Nat.zero_le _))⟩
                    clear q1
                    clear hK KK
                    (try clear hHeld)
                    have hHeld := hHeld2
                    clear hHeld2
                    (try simp only [Act.put, xa, xb, xc, xd, xe, xf])
                    refine wpAnyH_ready (rs := [2]) (by kernel_rfl) (by simp) ?_
                    refine AllReadyH.cons rfl (fun KK hK => ?_) ?_
                    · simp only [xa, xb, xc]
                      go_simp
                      refine (HG3.out _ (HOR3s.out.trans oo)).mono ?_
                      rintro e Z35_6_1_2 ⟨rfl, q1⟩
                      replace f_gc := f_gc.kept q1 (.inr (Nat.zero_le _))
                      replace oo := oo.trans q1
                      refine hK.out _ _ ?hS122 (fun hHeld2 => ?rest122)
                      case hS122 => exact ⟨q1.cell hHeld.1 (.inr (Nat.zero_le _)), q1.cell hHeld.2 (.inr (Nat.zero_le _))⟩
                      clear q1
                      clear hK KK
                      (try clear hHeld)
                      have hHeld := hHeld2
                      clear hHeld2
                      (try simp only [Act.put, xa, xb, xc, xd, xe, xf])
                      refine tk 3 ?_
                      refine tk 4 ?_
                      refine tk 5 ?_
                      refine tk 7 ?_
                      refine wpAnyH_ready (rs := [8]) (by kernel_rfl) (by simp) ?_
                      refine AllReadyH.cons rfl (fun KK hK => ?_) ?_
                      · simp only [xa, xb, xc]
                        have y0 := f_gc.cell (i := 0) rfl
                        have z0 := f_gc.frozen 0
                        have y1 := f_gc.cell (i := 1) rfl
                        have z1 := f_gc.frozen 1
                        go_simp
                        clear y0 z0 y1 z1
                        obtain ⟨Z35_6_1_2_8, hY⟩ : ∃ V, ((Z35_6_1_2.setCell ⟨gc, 0, none⟩ (.int .i64 0)).setCell ⟨gc, 1, none⟩ (.int .i64 0)) = V := ⟨_, rfl⟩
                        have qS : Out gc (gc + 1) Z35_6_1_2 Z35_6_1_2_8 := by rw [← hY]; exact ((Out.refl _ _ _).setCell (p := ⟨gc, 0, none⟩) (.inl ⟨Nat.le_refl _, Nat.lt_succ_self _⟩) _).setCell (p := ⟨gc, 1, none⟩) (.inl ⟨Nat.le_refl _, Nat.lt_succ_self _⟩) _
                        replace f_gc : Bl Z35_6_1_2_8 gc #[.int .i64 0, .int .i64 0] 38 := by rw [← hY]; exact ((f_gc.set 0 (.int .i64 0)).set 1 (.int .i64 0))
                        (try rw [hY])
                        clear hY
                        replace oo := oo.past qS (by omega)
                        refine hK.out _ _ ?hS127 (fun hHeld2 => ?rest127)
                        case hS127 => exact ⟨qS.cell hHeld.1 (by omega), qS.cell hHeld.2 (by omega)⟩
                        clear qS
                        clear hK KK
                        (try clear hHeld)
                        have hHeld := hHeld2
                        clear hHeld2
                        (try simp only [Act.put, xa, xb, xc, xd, xe, xf])
                        refine wpAnyH_done (by kernel_rfl) ?_ _
                        exact HC gc _ ⟨f_gc, oo⟩
                      · exact AllReadyH.nil
                    · exact AllReadyH.nil
                  · exact AllReadyH.nil
                · exact AllReadyH.nil
            case h2 =>
              rintro gc X3 ⟨kF3, oV3⟩
              refine hK3 _ _ ?_
              have HOR3 := hid_mk (HOR3s.out.trans oV3)
              have HF3 := hid_mk kF3
              have HF1 := hid_mk (HF1.out.kept oV3 (.inr (Nat.zero_le _)))
              have HF2 := hid_mk (HF2.out.kept oV3 (.inr (Nat.zero_le _)))
              clear kF3 oV3 g0 g1 hAl hK3
              have z0 := HF1.out.cell (i := 0) rfl
              have z1 := HF1.out.cell (i := 1) rfl
              go_wp2_with (go_at_call 9; refine (good_ok _).mono ?_; rintro e w4 ⟨rfl, o4⟩; have HOR3 := hid_mk (HOR3.out.trans o4); have HF1 := hid_mk (HF1.out.kept o4 (.inr (Nat.zero_le _))); have HF2 := hid_mk (HF2.out.kept o4 (.inr (Nat.zero_le _))); have HF3 := hid_mk (HF3.out.kept o4 (.inr (Nat.zero_le _))); have y0 := HF2.out.cell (i := 0) rfl; have y1 := HF2.out.cell (i := 1) rfl; have v0 := HF3.out.cell (i := 0) rfl; have v1 := HF3.out.cell (i := 1) rfl; clear o4)
              go_ret
              exact ⟨rfl, HWR.out.trans HOR3.out⟩
      · skip
        have q3 : (500 : Int) < 2 * (N : Int) + 1 := by omega
        have q4 : ¬ (500 : Int) < (N : Int) + 1 := by omega
        have hT1 : txtS 1 N false = ⟨#[35, 60, 108, 97, 114, 103, 101, 62]⟩ := (txt_list HN.out.1).trans (if_neg (by omega))
        have hT2 : txtS 1 N true = ⟨#[35, 60, 108, 97, 114, 103, 101, 62]⟩ := (txt_ring HN.out.1).trans (if_neg (by omega))
        have hT3 : txtS 2 N false = bS (cL N ++ [40, 41]) := (txt_boxes HN.out.1).trans (if_pos (by omega))
        have HG1 : Hid (∀ w, Out 0 0 wr w → Calls Tryd.prog 8 #[.agg #[.slice (some ⟨L1, 0, none⟩) N c1, .slice none 0 0], .agg #[.int .i64 2, .int .i64 1]] w fun e w' => e = .returned (.tuple #[.string (⟨#[35, 60, 108, 97, 114, 103, 101, 62]⟩), .agg #[.int .i64 0, .int .i64 0]]) ∧ Out 0 0 w w') := hid_mk (fun w o => hT1 ▸ graph_chain (.inl rfl) (fun h => rfl) HN.out (hG1.kept o) (HT.out.out (HWR.out.trans o)) (Nat.le_trans H8.out (HWR.out.trans o).size))
        have HG2 : Hid (∀ w, Out 0 0 wr w → Calls Tryd.prog 8 #[.agg #[.slice (some ⟨L2, 0, none⟩) N c2, .slice none 0 0], .agg #[.int .i64 2, .int .i64 1]] w fun e w' => e = .returned (.tuple #[.string (⟨#[35, 60, 108, 97, 114, 103, 101, 62]⟩), .agg #[.int .i64 0, .int .i64 0]]) ∧ Out 0 0 w w') := hid_mk (fun w o => hT2 ▸ graph_chain (.inl rfl) (fun h => absurd h (by decide)) HN.out (hG2.kept o) (HT.out.out (HWR.out.trans o)) (Nat.le_trans H8.out (HWR.out.trans o).size))
        have HG3 : Hid (∀ w, Out 0 0 wr w → Calls Tryd.prog 8 #[.agg #[.slice (some ⟨L3, 0, none⟩) N c3, .slice none 0 0], .agg #[.int .i64 2, .int .i64 1]] w fun e w' => e = .returned (.tuple #[.string (bS (cL N ++ [40, 41])), .agg #[.int .i64 0, .int .i64 0]]) ∧ Out 0 0 w w') := hid_mk (fun w o => hT3 ▸ graph_chain (.inr rfl) (fun _ => rfl) HN.out (hG3.kept o) (HT.out.out (HWR.out.trans o)) (Nat.le_trans H8.out (HWR.out.trans o).size))
        clear hT1 hT2 hT3 hG1 hG2 hG3
        go_wp2_with fail
        rename_i K1 hK1
        have oR1 : Out 0 0 wr wr := Out.refl _ _ _
        have HOR1s := hid_mk oR1
        have g0 := HN1.out.cell0
        have g1 := HN1.out.cell1
        replace g0 := oR1.cell g0 (.inr (Nat.zero_le _))
        replace g1 := oR1.cell g1 (.inr (Nat.zero_le _))
        have hAl := cell_lt g0
        clear oR1
        apply cut1 (K := K1) (F := fun ga V => Bl V ga #[.int .i64 0, .int .i64 0] 38 ∧ Out 0 0 wr V)
        case h1 =>
          intro HC
          obtain ⟨lim33, hlm33⟩ : ∃ l, wr.heap.size = l := ⟨_, rfl⟩
          refine wp_region_held_drew (S := fun w' => w'.cell? ⟨A, 0, none⟩ = some (.slice (some ⟨L1, 0, none⟩) N c1) ∧ w'.cell? ⟨A, 1, none⟩ = some (.slice none 0 0)) (by kernel_rfl) ?hS128 (fun hHeld => ?rest128)
          case hS128 => exact ⟨g0, g1⟩
          obtain ⟨Z33, hZ⟩ : ∃ Z, wr.drew = Z := ⟨_, rfl⟩
          have oZ : Out 0 0 wr Z33 := by rw [← hZ]; exact (Out.refl 0 0 _).drew
          have oo := oZ
          rw [hZ] at hHeld ⊢
          clear hZ oZ
          refine tk 0 ?_
          refine wpAnyH_ready (rs := [1, 6]) (by kernel_rfl) (by simp) ?_
          refine AllReadyH.cons rfl (fun KK hK => ?_) ?_
          · simp only [xa, xb, xc]
            go_simp
            refine (ref_any 1 _).mono ?_
            rintro e Z33_1 ⟨rfl, q1⟩
            replace oo := oo.trans q1
            refine hK.out _ _ ?hS130 (fun hHeld2 => ?rest130)
            case hS130 => exact ⟨q1.cell hHeld.1 (.inr (Nat.zero_le _)), q1.cell hHeld.2 (.inr (Nat.zero_le _))⟩
            clear q1
            clear hK KK
            (try clear hHeld)
            have hHeld := hHeld2
            clear hHeld2
            (try simp only [Act.put, xa, xb, xc, xd, xe, xf])
            refine wpAnyH_ready (rs := [2, 6]) (by kernel_rfl) (by simp) ?_
            refine AllReadyH.cons rfl (fun KK hK => ?_) ?_
            · simp only [xa, xb, xc]
              go_simp
              refine (HG1.out _ (HOR1s.out.trans oo)).mono ?_
              rintro e Z33_1_2 ⟨rfl, q1⟩
              replace oo := oo.trans q1
              refine hK.out _ _ ?hS131 (fun hHeld2 => ?rest131)
              case hS131 => exact ⟨q1.cell hHeld.1 (.inr (Nat.zero_le _)), q1.cell hHeld.2 (.inr (Nat.zero_le _))⟩
              clear q1
              clear hK KK
              (try clear hHeld)
              have hHeld := hHeld2
              clear hHeld2
              (try simp only [Act.put, xa, xb, xc, xd, xe, xf])
              refine tk 3 ?_
              refine tk 4 ?_
              refine tk 5 ?_
              refine wpAnyH_ready (rs := [6]) (by kernel_rfl) (by simp) ?_
              refine AllReadyH.cons rfl (fun KK hK => ?_) ?_
              · simp only [xa, xb, xc]
                go_simp
                obtain ⟨ga, hgf⟩ : ∃ g, Z33_1_2.heap.size = g := ⟨_, rfl⟩
                obtain ⟨Z33_1_2_6, hY⟩ : ∃ V, Z33_1_2.alloc (.cells #[.int .i64 0, .int .i64 0] 38) = V := ⟨_, rfl⟩
                have qA : Out 0 0 Z33_1_2 Z33_1_2_6 := by rw [← hY]; exact (Out.refl 0 0 _).alloc _
                have f_ga : Bl Z33_1_2_6 ga #[.int .i64 0, .int .i64 0] 38 := by rw [← hY, ← hgf]; exact Bl.new _ _ _
                have hl_ga : lim33 ≤ ga := by rw [← hgf, ← hlm33]; exact oo.size
                (try rw [hY])
                (try rw [hgf])
                clear hY hgf
                replace oo := oo.trans qA
                refine hK.out _ _ ?hS135 (fun hHeld2 => ?rest135)
                case hS135 => exact ⟨qA.cell hHeld.1 (.inr (Nat.zero_le _)), qA.cell hHeld.2 (.inr (Nat.zero_le _))⟩
                clear qA
                clear hK KK
                (try clear hHeld)
                have hHeld := hHeld2
                clear hHeld2
                (try simp only [Act.put, xa, xb, xc, xd, xe, xf])
                refine tk 7 ?_
                refine wpAnyH_ready (rs := [8]) (by kernel_rfl) (by simp) ?_
                refine AllReadyH.cons rfl (fun KK hK => ?_) ?_
                · simp only [xa, xb, xc]
                  have y0 := f_ga.cell (i := 0) rfl
                  have z0 := f_ga.frozen 0
                  have y1 := f_ga.cell (i := 1) rfl
                  have z1 := f_ga.frozen 1
                  go_simp
                  clear y0 z0 y1 z1
                  obtain ⟨Z33_1_2_6_8, hY⟩ : ∃ V, ((Z33_1_2_6.setCell ⟨ga, 0, none⟩ (.int .i64 0)).setCell ⟨ga, 1, none⟩ (.int .i64 0)) = V := ⟨_, rfl⟩
                  have qS : Out ga (ga + 1) Z33_1_2_6 Z33_1_2_6_8 := by rw [← hY]; exact ((Out.refl _ _ _).setCell (p := ⟨ga, 0, none⟩) (.inl ⟨Nat.le_refl _, Nat.lt_succ_self _⟩) _).setCell (p := ⟨ga, 1, none⟩) (.inl ⟨Nat.le_refl _, Nat.lt_succ_self _⟩) _
                  replace f_ga : Bl Z33_1_2_6_8 ga #[.int .i64 0, .int .i64 0] 38 := by rw [← hY]; exact ((f_ga.set 0 (.int .i64 0)).set 1 (.int .i64 0))
                  (try rw [hY])
                  clear hY
                  replace oo := oo.past qS (by omega)
                  refine hK.out _ _ ?hS137 (fun hHeld2 => ?rest137)
                  case hS137 => exact ⟨qS.cell hHeld.1 (by omega), qS.cell hHeld.2 (by omega)⟩
                  clear qS
                  clear hK KK
                  (try clear hHeld)
                  have hHeld := hHeld2
                  clear hHeld2
                  (try simp only [Act.put, xa, xb, xc, xd, xe, xf])
                  refine wpAnyH_done (by kernel_rfl) ?_ _
                  exact HC ga _ ⟨f_ga, oo⟩
                · exact AllReadyH.nil
              · exact AllReadyH.nil
            · refine AllReadyH.cons rfl (fun KK hK => ?_) ?_
              · simp only [xa, xb, xc]
                go_simp
                obtain ⟨ga, hgf⟩ : ∃ g, Z33_1.heap.size = g := ⟨_, rfl⟩
                obtain ⟨Z33_1_6, hY⟩ : ∃ V, Z33_1.alloc (.cells #[.int .i64 0, .int .i64 0] 38) = V := ⟨_, rfl⟩
                have qA : Out 0 0 Z33_1 Z33_1_6 := by rw [← hY]; exact (Out.refl 0 0 _).alloc _
                have f_ga : Bl Z33_1_6 ga #[.int .i64 0, .int .i64 0] 38 := by rw [← hY, ← hgf]; exact Bl.new _ _ _
                have hl_ga : lim33 ≤ ga := by rw [← hgf, ← hlm33]; exact oo.size
                (try rw [hY])
                (try rw [hgf])
                clear hY hgf
                replace oo := oo.trans qA
                refine hK.out _ _ ?hS138 (fun hHeld2 => ?rest138)
                case hS138 => exact ⟨qA.cell hHeld.1 (.inr (Nat.zero_le _)), qA.cell hHeld.2 (.inr (Nat.zero_le _))⟩
                clear qA
                clear hK KK
                (try clear hHeld)
                have hHeld := hHeld2
                clear hHeld2
                (try simp only [Act.put, xa, xb, xc, xd, xe, xf])
                refine wpAnyH_ready (rs := [2]) (by kernel_rfl) (by simp) ?_
                refine AllReadyH.cons rfl (fun KK hK => ?_) ?_
                · simp only [xa, xb, xc]
                  go_simp
                  refine (HG1.out _ (HOR1s.out.trans oo)).mono ?_
                  rintro e Z33_1_6_2 ⟨rfl, q1⟩
                  replace f_ga := f_ga.kept q1 (.inr (Nat.zero_le _))
                  replace oo := oo.trans q1
                  refine hK.out _ _ ?hS139 (fun hHeld2 => ?rest139)
                  case hS139 => exact ⟨q1.cell hHeld.1 (.inr (Nat.zero_le _)), q1.cell hHeld.2 (.inr (Nat.zero_le _))⟩
                  clear q1
                  clear hK KK
                  (try clear hHeld)
                  have hHeld := hHeld2
                  clear hHeld2
                  (try simp only [Act.put, xa, xb, xc, xd, xe, xf])
                  refine tk 3 ?_
                  refine tk 4 ?_
                  refine tk 5 ?_
                  refine tk 7 ?_
                  refine wpAnyH_ready (rs := [8]) (by kernel_rfl) (by simp) ?_
                  refine AllReadyH.cons rfl (fun KK hK => ?_) ?_
                  · simp only [xa, xb, xc]
                    have y0 := f_ga.cell (i := 0) rfl
                    have z0 := f_ga.frozen 0
                    have y1 := f_ga.cell (i := 1) rfl
                    have z1 := f_ga.frozen 1
                    go_simp
                    clear y0 z0 y1 z1
                    obtain ⟨Z33_1_6_2_8, hY⟩ : ∃ V, ((Z33_1_6_2.setCell ⟨ga, 0, none⟩ (.int .i64 0)).setCell ⟨ga, 1, none⟩ (.int .i64 0)) = V := ⟨_, rfl⟩
                    have qS : Out ga (ga + 1) Z33_1_6_2 Z33_1_6_2_8 := by rw [← hY]; exact ((Out.refl _ _ _).setCell (p := ⟨ga, 0, none⟩) (.inl ⟨Nat.le_refl _, Nat.lt_succ_self _⟩) _).setCell (p := ⟨ga, 1, none⟩) (.inl ⟨Nat.le_refl _, Nat.lt_succ_self _⟩) _
                    replace f_ga : Bl Z33_1_6_2_8 ga #[.int .i64 0, .int .i64 0] 38 := by rw [← hY]; exact ((f_ga.set 0 (.int .i64 0)).set 1 (.int .i64 0))
                    (try rw [hY])
                    clear hY
                    replace oo := oo.past qS (by omega)
                    refine hK.out _ _ ?hS144 (fun hHeld2 => ?rest144)
                    case hS144 => exact ⟨qS.cell hHeld.1 (by omega), qS.cell hHeld.2 (by omega)⟩
                    clear qS
                    clear hK KK
                    (try clear hHeld)
                    have hHeld := hHeld2
                    clear hHeld2
                    (try simp only [Act.put, xa, xb, xc, xd, xe, xf])
                    refine wpAnyH_done (by kernel_rfl) ?_ _
                    exact HC ga _ ⟨f_ga, oo⟩
                  · exact AllReadyH.nil
                · exact AllReadyH.nil
              · exact AllReadyH.nil
          · refine AllReadyH.cons rfl (fun KK hK => ?_) ?_
            · simp only [xa, xb, xc]
              go_simp
              obtain ⟨ga, hgf⟩ : ∃ g, Z33.heap.size = g := ⟨_, rfl⟩
              obtain ⟨Z33_6, hY⟩ : ∃ V, Z33.alloc (.cells #[.int .i64 0, .int .i64 0] 38) = V := ⟨_, rfl⟩
              have qA : Out 0 0 Z33 Z33_6 := by rw [← hY]; exact (Out.refl 0 0 _).alloc _
              have f_ga : Bl Z33_6 ga #[.int .i64 0, .int .i64 0] 38 := by rw [← hY, ← hgf]; exact Bl.new _ _ _
              have hl_ga : lim33 ≤ ga := by rw [← hgf, ← hlm33]; exact oo.size
              (try rw [hY])
              (try rw [hgf])
              clear hY hgf
              replace oo := oo.trans qA
              refine hK.out _ _ ?hS145 (fun hHeld2 => ?rest145)
              case hS145 => exact ⟨qA.cell hHeld.1 (.inr (Nat.zero_le _)), qA.cell hHeld.2 (.inr (Nat.zero_le _))⟩
              clear qA
              clear hK KK
              (try clear hHeld)
              have hHeld := hHeld2
              clear hHeld2
              (try simp only [Act.put, xa, xb, xc, xd, xe, xf])
              refine wpAnyH_ready (rs := [1]) (by kernel_rfl) (by simp) ?_
              refine AllReadyH.cons rfl (fun KK hK => ?_) ?_
              · simp only [xa, xb, xc]
                go_simp
                refine (ref_any 1 _).mono ?_
                rintro e Z33_6_1 ⟨rfl, q1⟩
                replace f_ga := f_ga.kept q1 (.inr (Nat.zero_le _))
                replace oo := oo.trans q1
                refine hK.out _ _ ?hS146 (fun hHeld2 => ?rest146)
                case hS146 => exact ⟨q1.cell hHeld.1 (.inr (Nat.zero_le _)), q1.cell hHeld.2 (.inr (Nat.zero_le _))⟩
                clear q1
                clear hK KK
                (try clear hHeld)
                have hHeld := hHeld2
                clear hHeld2
                (try simp only [Act.put, xa, xb, xc, xd, xe, xf])
                refine wpAnyH_ready (rs := [2]) (by kernel_rfl) (by simp) ?_
                refine AllReadyH.cons rfl (fun KK hK => ?_) ?_
                · simp only [xa, xb, xc]
                  go_simp
                  refine (HG1.out _ (HOR1s.out.trans oo)).mono ?_
                  rintro e Z33_6_1_2 ⟨rfl, q1⟩
                  replace f_ga := f_ga.kept q1 (.inr (Nat.zero_le _))
                  replace oo := oo.trans q1
                  refine hK.out _ _ ?hS147 (fun hHeld2 => ?rest147)
                  case hS147 => exact ⟨q1.cell hHeld.1 (.inr (Nat.zero_le _)), q1.cell hHeld.2 (.inr (Nat.zero_le _))⟩
                  clear q1
                  clear hK KK
                  (try clear hHeld)
                  have hHeld := hHeld2
                  clear hHeld2
                  (try simp only [Act.put, xa, xb, xc, xd, xe, xf])
                  refine tk 3 ?_
                  refine tk 4 ?_
                  refine tk 5 ?_
                  refine tk 7 ?_
                  refine wpAnyH_ready (rs := [8]) (by kernel_rfl) (by simp) ?_
                  refine AllReadyH.cons rfl (fun KK hK => ?_) ?_
                  · simp only [xa, xb, xc]
                    have y0 := f_ga.cell (i := 0) rfl
                    have z0 := f_ga.frozen 0
                    have y1 := f_ga.cell (i := 1) rfl
                    have z1 := f_ga.frozen 1
                    go_simp
                    clear y0 z0 y1 z1
                    obtain ⟨Z33_6_1_2_8, hY⟩ : ∃ V, ((Z33_6_1_2.setCell ⟨ga, 0, none⟩ (.int .i64 0)).setCell ⟨ga, 1, none⟩ (.int .i64 0)) = V := ⟨_, rfl⟩
                    have qS : Out ga (ga + 1) Z33_6_1_2 Z33_6_1_2_8 := by rw [← hY]; exact ((Out.refl _ _ _).setCell (p := ⟨ga, 0, none⟩) (.inl ⟨Nat.le_refl _, Nat.lt_succ_self _⟩) _).setCell (p := ⟨ga, 1, none⟩) (.inl ⟨Nat.le_refl _, Nat.lt_succ_self _⟩) _
                    replace f_ga : Bl Z33_6_1_2_8 ga #[.int .i64 0, .int .i64 0] 38 := by rw [← hY]; exact ((f_ga.set 0 (.int .i64 0)).set 1 (.int .i64 0))
                    (try rw [hY])
                    clear hY
                    replace oo := oo.past qS (by omega)
                    refine hK.out _ _ ?hS152 (fun hHeld2 => ?rest152)
                    case hS152 => exact ⟨qS.cell hHeld.1 (by omega), qS.cell hHeld.2 (by omega)⟩
                    clear qS
                    clear hK KK
                    (try clear hHeld)
                    have hHeld := hHeld2
                    clear hHeld2
                    (try simp only [Act.put, xa, xb, xc, xd, xe, xf])
                    refine wpAnyH_done (by kernel_rfl) ?_ _
                    exact HC ga _ ⟨f_ga, oo⟩
                  · exact AllReadyH.nil
                · exact AllReadyH.nil
              · exact AllReadyH.nil
            · exact AllReadyH.nil
        case h2 =>
          rintro ga X1 ⟨kF1, oV1⟩
          refine hK1 _ _ ?_
          have HOR1 := hid_mk (HOR1s.out.trans oV1)
          have HF1 := hid_mk kF1
          clear kF1 oV1 g0 g1 hAl hK1
          go_wp2_with fail
          rename_i K2 hK2
          have oR2 : Out 0 0 wr X1 := HOR1.out
          have HOR2s := hid_mk oR2
          have g0 := HN2.out.cell0
          have g1 := HN2.out.cell1
          replace g0 := oR2.cell g0 (.inr (Nat.zero_le _))
          replace g1 := oR2.cell g1 (.inr (Nat.zero_le _))
          have hAl := cell_lt g0
          clear oR2
          apply cut1 (K := K2) (F := fun gb V => Bl V gb #[.int .i64 0, .int .i64 0] 38 ∧ Out 0 0 X1 V)
          case h1 =>
            intro HC
            obtain ⟨lim34, hlm34⟩ : ∃ l, X1.heap.size = l := ⟨_, rfl⟩
            refine wp_region_held_drew (S := fun w' => w'.cell? ⟨A + 1, 0, none⟩ = some (.slice (some ⟨L2, 0, none⟩) N c2) ∧ w'.cell? ⟨A + 1, 1, none⟩ = some (.slice none 0 0)) (by kernel_rfl) ?hS153 (fun hHeld => ?rest153)
            case hS153 => exact ⟨g0, g1⟩
            obtain ⟨Z34, hZ⟩ : ∃ Z, X1.drew = Z := ⟨_, rfl⟩
            have oZ : Out 0 0 X1 Z34 := by rw [← hZ]; exact (Out.refl 0 0 _).drew
            have oo := oZ
            rw [hZ] at hHeld ⊢
            clear hZ oZ
            refine tk 0 ?_
            refine wpAnyH_ready (rs := [1, 6]) (by kernel_rfl) (by simp) ?_
            refine AllReadyH.cons rfl (fun KK hK => ?_) ?_
            · simp only [xa, xb, xc]
              go_simp
              refine (ref_any 1 _).mono ?_
              rintro e Z34_1 ⟨rfl, q1⟩
              replace oo := oo.trans q1
              refine hK.out _ _ ?hS155 (fun hHeld2 => ?rest155)
              case hS155 => exact ⟨q1.cell hHeld.1 (.inr (Nat.zero_le _)), q1.cell hHeld.2 (.inr (Nat.zero_le _))⟩
              clear q1
              clear hK KK
              (try clear hHeld)
              have hHeld := hHeld2
              clear hHeld2
              (try simp only [Act.put, xa, xb, xc, xd, xe, xf])
              refine wpAnyH_ready (rs := [2, 6]) (by kernel_rfl) (by simp) ?_
              refine AllReadyH.cons rfl (fun KK hK => ?_) ?_
              · simp only [xa, xb, xc]
                go_simp
                refine (HG2.out _ (HOR2s.out.trans oo)).mono ?_
                rintro e Z34_1_2 ⟨rfl, q1⟩
                replace oo := oo.trans q1
                refine hK.out _ _ ?hS156 (fun hHeld2 => ?rest156)
                case hS156 => exact ⟨q1.cell hHeld.1 (.inr (Nat.zero_le _)), q1.cell hHeld.2 (.inr (Nat.zero_le _))⟩
                clear q1
                clear hK KK
                (try clear hHeld)
                have hHeld := hHeld2
                clear hHeld2
                (try simp only [Act.put, xa, xb, xc, xd, xe, xf])
                refine tk 3 ?_
                refine tk 4 ?_
                refine tk 5 ?_
                refine wpAnyH_ready (rs := [6]) (by kernel_rfl) (by simp) ?_
                refine AllReadyH.cons rfl (fun KK hK => ?_) ?_
                · simp only [xa, xb, xc]
                  go_simp
                  obtain ⟨gb, hgf⟩ : ∃ g, Z34_1_2.heap.size = g := ⟨_, rfl⟩
                  obtain ⟨Z34_1_2_6, hY⟩ : ∃ V, Z34_1_2.alloc (.cells #[.int .i64 0, .int .i64 0] 38) = V := ⟨_, rfl⟩
                  have qA : Out 0 0 Z34_1_2 Z34_1_2_6 := by rw [← hY]; exact (Out.refl 0 0 _).alloc _
                  have f_gb : Bl Z34_1_2_6 gb #[.int .i64 0, .int .i64 0] 38 := by rw [← hY, ← hgf]; exact Bl.new _ _ _
                  have hl_gb : lim34 ≤ gb := by rw [← hgf, ← hlm34]; exact oo.size
                  (try rw [hY])
                  (try rw [hgf])
                  clear hY hgf
                  replace oo := oo.trans qA
                  refine hK.out _ _ ?hS160 (fun hHeld2 => ?rest160)
                  case hS160 => exact ⟨qA.cell hHeld.1 (.inr (Nat.zero_le _)), qA.cell hHeld.2 (.inr (Nat.zero_le _))⟩
                  clear qA
                  clear hK KK
                  (try clear hHeld)
                  have hHeld := hHeld2
                  clear hHeld2
                  (try simp only [Act.put, xa, xb, xc, xd, xe, xf])
                  refine tk 7 ?_
                  refine wpAnyH_ready (rs := [8]) (by kernel_rfl) (by simp) ?_
                  refine AllReadyH.cons rfl (fun KK hK => ?_) ?_
                  · simp only [xa, xb, xc]
                    have y0 := f_gb.cell (i := 0) rfl
                    have z0 := f_gb.frozen 0
                    have y1 := f_gb.cell (i := 1) rfl
                    have z1 := f_gb.frozen 1
                    go_simp
                    clear y0 z0 y1 z1
                    obtain ⟨Z34_1_2_6_8, hY⟩ : ∃ V, ((Z34_1_2_6.setCell ⟨gb, 0, none⟩ (.int .i64 0)).setCell ⟨gb, 1, none⟩ (.int .i64 0)) = V := ⟨_, rfl⟩
                    have qS : Out gb (gb + 1) Z34_1_2_6 Z34_1_2_6_8 := by rw [← hY]; exact ((Out.refl _ _ _).setCell (p := ⟨gb, 0, none⟩) (.inl ⟨Nat.le_refl _, Nat.lt_succ_self _⟩) _).setCell (p := ⟨gb, 1, none⟩) (.inl ⟨Nat.le_refl _, Nat.lt_succ_self _⟩) _
                    replace f_gb : Bl Z34_1_2_6_8 gb #[.int .i64 0, .int .i64 0] 38 := by rw [← hY]; exact ((f_gb.set 0 (.int .i64 0)).set 1 (.int .i64 0))
                    (try rw [hY])
                    clear hY
                    replace oo := oo.past qS (by omega)
                    refine hK.out _ _ ?hS162 (fun hHeld2 => ?rest162)
                    case hS162 => exact ⟨qS.cell hHeld.1 (by omega), qS.cell hHeld.2 (by omega)⟩
                    clear qS
                    clear hK KK
                    (try clear hHeld)
                    have hHeld := hHeld2
                    clear hHeld2
                    (try simp only [Act.put, xa, xb, xc, xd, xe, xf])
                    refine wpAnyH_done (by kernel_rfl) ?_ _
                    exact HC gb _ ⟨f_gb, oo⟩
                  · exact AllReadyH.nil
                · exact AllReadyH.nil
              · refine AllReadyH.cons rfl (fun KK hK => ?_) ?_
                · simp only [xa, xb, xc]
                  go_simp
                  obtain ⟨gb, hgf⟩ : ∃ g, Z34_1.heap.size = g := ⟨_, rfl⟩
                  obtain ⟨Z34_1_6, hY⟩ : ∃ V, Z34_1.alloc (.cells #[.int .i64 0, .int .i64 0] 38) = V := ⟨_, rfl⟩
                  have qA : Out 0 0 Z34_1 Z34_1_6 := by rw [← hY]; exact (Out.refl 0 0 _).alloc _
                  have f_gb : Bl Z34_1_6 gb #[.int .i64 0, .int .i64 0] 38 := by rw [← hY, ← hgf]; exact Bl.new _ _ _
                  have hl_gb : lim34 ≤ gb := by rw [← hgf, ← hlm34]; exact oo.size
                  (try rw [hY])
                  (try rw [hgf])
                  clear hY hgf
                  replace oo := oo.trans qA
                  refine hK.out _ _ ?hS163 (fun hHeld2 => ?rest163)
                  case hS163 => exact ⟨qA.cell hHeld.1 (.inr (Nat.zero_le _)), qA.cell hHeld.2 (.inr (Nat.zero_le _))⟩
                  clear qA
                  clear hK KK
                  (try clear hHeld)
                  have hHeld := hHeld2
                  clear hHeld2
                  (try simp only [Act.put, xa, xb, xc, xd, xe, xf])
                  refine wpAnyH_ready (rs := [2]) (by kernel_rfl) (by simp) ?_
                  refine AllReadyH.cons rfl (fun KK hK => ?_) ?_
                  · simp only [xa, xb, xc]
                    go_simp
                    refine (HG2.out _ (HOR2s.out.trans oo)).mono ?_
                    rintro e Z34_1_6_2 ⟨rfl, q1⟩
                    replace f_gb := f_gb.kept q1 (.inr (Nat.zero_le _))
                    replace oo := oo.trans q1
                    refine hK.out _ _ ?hS164 (fun hHeld2 => ?rest164)
                    case hS164 => exact ⟨q1.cell hHeld.1 (.inr (Nat.zero_le _)), q1.cell hHeld.2 (.inr (Nat.zero_le _))⟩
                    clear q1
                    clear hK KK
                    (try clear hHeld)
                    have hHeld := hHeld2
                    clear hHeld2
                    (try simp only [Act.put, xa, xb, xc, xd, xe, xf])
                    refine tk 3 ?_
                    refine tk 4 ?_
                    refine tk 5 ?_
                    refine tk 7 ?_
                    refine wpAnyH_ready (rs := [8]) (by kernel_rfl) (by simp) ?_
                    refine AllReadyH.cons rfl (fun KK hK => ?_) ?_
                    · simp only [xa, xb, xc]
                      have y0 := f_gb.cell (i := 0) rfl
                      have z0 := f_gb.frozen 0
                      have y1 := f_gb.cell (i := 1) rfl
                      have z1 := f_gb.frozen 1
                      go_simp
                      clear y0 z0 y1 z1
                      obtain ⟨Z34_1_6_2_8, hY⟩ : ∃ V, ((Z34_1_6_2.setCell ⟨gb, 0, none⟩ (.int .i64 0)).setCell ⟨gb, 1, none⟩ (.int .i64 0)) = V := ⟨_, rfl⟩
                      have qS : Out gb (gb + 1) Z34_1_6_2 Z34_1_6_2_8 := by rw [← hY]; exact ((Out.refl _ _ _).setCell (p := ⟨gb, 0, none⟩) (.inl ⟨Nat.le_refl _, Nat.lt_succ_self _⟩) _).setCell (p := ⟨gb, 1, none⟩) (.inl ⟨Nat.le_refl _, Nat.lt_succ_self _⟩) _
                      replace f_gb : Bl Z34_1_6_2_8 gb #[.int .i64 0, .int .i64 0] 38 := by rw [← hY]; exact ((f_gb.set 0 (.int .i64 0)).set 1 (.int .i64 0))
                      (try rw [hY])
                      clear hY
                      replace oo := oo.past qS (by omega)
                      refine hK.out _ _ ?hS169 (fun hHeld2 => ?rest169)
                      case hS169 => exact ⟨qS.cell hHeld.1 (by omega), qS.cell hHeld.2 (by omega)⟩
                      clear qS
                      clear hK KK
                      (try clear hHeld)
                      have hHeld := hHeld2
                      clear hHeld2
                      (try simp only [Act.put, xa, xb, xc, xd, xe, xf])
                      refine wpAnyH_done (by kernel_rfl) ?_ _
                      exact HC gb _ ⟨f_gb, oo⟩
                    · exact AllReadyH.nil
                  · exact AllReadyH.nil
                · exact AllReadyH.nil
            · refine AllReadyH.cons rfl (fun KK hK => ?_) ?_
              · simp only [xa, xb, xc]
                go_simp
                obtain ⟨gb, hgf⟩ : ∃ g, Z34.heap.size = g := ⟨_, rfl⟩
                obtain ⟨Z34_6, hY⟩ : ∃ V, Z34.alloc (.cells #[.int .i64 0, .int .i64 0] 38) = V := ⟨_, rfl⟩
                have qA : Out 0 0 Z34 Z34_6 := by rw [← hY]; exact (Out.refl 0 0 _).alloc _
                have f_gb : Bl Z34_6 gb #[.int .i64 0, .int .i64 0] 38 := by rw [← hY, ← hgf]; exact Bl.new _ _ _
                have hl_gb : lim34 ≤ gb := by rw [← hgf, ← hlm34]; exact oo.size
                (try rw [hY])
                (try rw [hgf])
                clear hY hgf
                replace oo := oo.trans qA
                refine hK.out _ _ ?hS170 (fun hHeld2 => ?rest170)
                case hS170 => exact ⟨qA.cell hHeld.1 (.inr (Nat.zero_le _)), qA.cell hHeld.2 (.inr (Nat.zero_le _))⟩
                clear qA
                clear hK KK
                (try clear hHeld)
                have hHeld := hHeld2
                clear hHeld2
                (try simp only [Act.put, xa, xb, xc, xd, xe, xf])
                refine wpAnyH_ready (rs := [1]) (by kernel_rfl) (by simp) ?_
                refine AllReadyH.cons rfl (fun KK hK => ?_) ?_
                · simp only [xa, xb, xc]
                  go_simp
                  refine (ref_any 1 _).mono ?_
                  rintro e Z34_6_1 ⟨rfl, q1⟩
                  replace f_gb := f_gb.kept q1 (.inr (Nat.zero_le _))
                  replace oo := oo.trans q1
                  refine hK.out _ _ ?hS171 (fun hHeld2 => ?rest171)
                  case hS171 => exact ⟨q1.cell hHeld.1 (.inr (Nat.zero_le _)), q1.cell hHeld.2 (.inr (Nat.zero_le _))⟩
                  clear q1
                  clear hK KK
                  (try clear hHeld)
                  have hHeld := hHeld2
                  clear hHeld2
                  (try simp only [Act.put, xa, xb, xc, xd, xe, xf])
                  refine wpAnyH_ready (rs := [2]) (by kernel_rfl) (by simp) ?_
                  refine AllReadyH.cons rfl (fun KK hK => ?_) ?_
                  · simp only [xa, xb, xc]
                    go_simp
                    refine (HG2.out _ (HOR2s.out.trans oo)).mono ?_
                    rintro e Z34_6_1_2 ⟨rfl, q1⟩
                    replace f_gb := f_gb.kept q1 (.inr (Nat.zero_le _))
                    replace oo := oo.trans q1
                    refine hK.out _ _ ?hS172 (fun hHeld2 => ?rest172)
                    case hS172 => exact ⟨q1.cell hHeld.1 (.inr (Nat.zero_le _)), q1.cell hHeld.2 (.inr (Nat.zero_le _))⟩
                    clear q1
                    clear hK KK
                    (try clear hHeld)
                    have hHeld := hHeld2
                    clear hHeld2
                    (try simp only [Act.put, xa, xb, xc, xd, xe, xf])
                    refine tk 3 ?_
                    refine tk 4 ?_
                    refine tk 5 ?_
                    refine tk 7 ?_
                    refine wpAnyH_ready (rs := [8]) (by kernel_rfl) (by simp) ?_
                    refine AllReadyH.cons rfl (fun KK hK => ?_) ?_
                    · simp only [xa, xb, xc]
                      have y0 := f_gb.cell (i := 0) rfl
                      have z0 := f_gb.frozen 0
                      have y1 := f_gb.cell (i := 1) rfl
                      have z1 := f_gb.frozen 1
                      go_simp
                      clear y0 z0 y1 z1
                      obtain ⟨Z34_6_1_2_8, hY⟩ : ∃ V, ((Z34_6_1_2.setCell ⟨gb, 0, none⟩ (.int .i64 0)).setCell ⟨gb, 1, none⟩ (.int .i64 0)) = V := ⟨_, rfl⟩
                      have qS : Out gb (gb + 1) Z34_6_1_2 Z34_6_1_2_8 := by rw [← hY]; exact ((Out.refl _ _ _).setCell (p := ⟨gb, 0, none⟩) (.inl ⟨Nat.le_refl _, Nat.lt_succ_self _⟩) _).setCell (p := ⟨gb, 1, none⟩) (.inl ⟨Nat.le_refl _, Nat.lt_succ_self _⟩) _
                      replace f_gb : Bl Z34_6_1_2_8 gb #[.int .i64 0, .int .i64 0] 38 := by rw [← hY]; exact ((f_gb.set 0 (.int .i64 0)).set 1 (.int .i64 0))
                      (try rw [hY])
                      clear hY
                      replace oo := oo.past qS (by omega)
                      refine hK.out _ _ ?hS177 (fun hHeld2 => ?rest177)
                      case hS177 => exact ⟨qS.cell hHeld.1 (by omega), qS.cell hHeld.2 (by omega)⟩
                      clear qS
                      clear hK KK
                      (try clear hHeld)
                      have hHeld := hHeld2
                      clear hHeld2
                      (try simp only [Act.put, xa, xb, xc, xd, xe, xf])
                      refine wpAnyH_done (by kernel_rfl) ?_ _
                      exact HC gb _ ⟨f_gb, oo⟩
                    · exact AllReadyH.nil
                  · exact AllReadyH.nil
                · exact AllReadyH.nil
              · exact AllReadyH.nil
          case h2 =>
            rintro gb X2 ⟨kF2, oV2⟩
            refine hK2 _ _ ?_
            have HOR2 := hid_mk (HOR2s.out.trans oV2)
            have HF2 := hid_mk kF2
            have HF1 := hid_mk (HF1.out.kept oV2 (.inr (Nat.zero_le _)))
            clear kF2 oV2 g0 g1 hAl hK2
            go_wp2_with fail
            rename_i K3 hK3
            have oR3 : Out 0 0 wr X2 := HOR2.out
            have HOR3s := hid_mk oR3
            have g0 := HN3.out.cell0
            have g1 := HN3.out.cell1
            replace g0 := oR3.cell g0 (.inr (Nat.zero_le _))
            replace g1 := oR3.cell g1 (.inr (Nat.zero_le _))
            have hAl := cell_lt g0
            clear oR3
            apply cut1 (K := K3) (F := fun gc V => Bl V gc #[.int .i64 0, .int .i64 0] 38 ∧ Out 0 0 X2 V)
            case h1 =>
              intro HC
              obtain ⟨lim35, hlm35⟩ : ∃ l, X2.heap.size = l := ⟨_, rfl⟩
              refine wp_region_held_drew (S := fun w' => w'.cell? ⟨A + 1 + 1, 0, none⟩ = some (.slice (some ⟨L3, 0, none⟩) N c3) ∧ w'.cell? ⟨A + 1 + 1, 1, none⟩ = some (.slice none 0 0)) (by kernel_rfl) ?hS178 (fun hHeld => ?rest178)
              case hS178 => exact ⟨g0, g1⟩
              obtain ⟨Z35, hZ⟩ : ∃ Z, X2.drew = Z := ⟨_, rfl⟩
              have oZ : Out 0 0 X2 Z35 := by rw [← hZ]; exact (Out.refl 0 0 _).drew
              have oo := oZ
              rw [hZ] at hHeld ⊢
              clear hZ oZ
              refine tk 0 ?_
              refine wpAnyH_ready (rs := [1, 6]) (by kernel_rfl) (by simp) ?_
              refine AllReadyH.cons rfl (fun KK hK => ?_) ?_
              · simp only [xa, xb, xc]
                go_simp
                refine (ref_any 1 _).mono ?_
                rintro e Z35_1 ⟨rfl, q1⟩
                replace oo := oo.trans q1
                refine hK.out _ _ ?hS180 (fun hHeld2 => ?rest180)
                case hS180 => exact ⟨q1.cell hHeld.1 (.inr (Nat.zero_le _)), q1.cell hHeld.2 (.inr (Nat.zero_le _))⟩
                clear q1
                clear hK KK
                (try clear hHeld)
                have hHeld := hHeld2
                clear hHeld2
                (try simp only [Act.put, xa, xb, xc, xd, xe, xf])
                refine wpAnyH_ready (rs := [2, 6]) (by kernel_rfl) (by simp) ?_
                refine AllReadyH.cons rfl (fun KK hK => ?_) ?_
                · simp only [xa, xb, xc]
                  go_simp
                  refine (HG3.out _ (HOR3s.out.trans oo)).mono ?_
                  rintro e Z35_1_2 ⟨rfl, q1⟩
                  replace oo := oo.trans q1
                  refine hK.out _ _ ?hS181 (fun hHeld2 => ?rest181)
                  case hS181 => exact ⟨q1.cell hHeld.1 (.inr (Nat.zero_le _)), q1.cell hHeld.2 (.inr (Nat.zero_le _))⟩
                  clear q1
                  clear hK KK
                  (try clear hHeld)
                  have hHeld := hHeld2
                  clear hHeld2
                  (try simp only [Act.put, xa, xb, xc, xd, xe, xf])
                  refine tk 3 ?_
                  refine tk 4 ?_
                  refine tk 5 ?_
                  refine wpAnyH_ready (rs := [6]) (by kernel_rfl) (by simp) ?_
                  refine AllReadyH.cons rfl (fun KK hK => ?_) ?_
                  · simp only [xa, xb, xc]
                    go_simp
                    obtain ⟨gc, hgf⟩ : ∃ g, Z35_1_2.heap.size = g := ⟨_, rfl⟩
                    obtain ⟨Z35_1_2_6, hY⟩ : ∃ V, Z35_1_2.alloc (.cells #[.int .i64 0, .int .i64 0] 38) = V := ⟨_, rfl⟩
                    have qA : Out 0 0 Z35_1_2 Z35_1_2_6 := by rw [← hY]; exact (Out.refl 0 0 _).alloc _
                    have f_gc : Bl Z35_1_2_6 gc #[.int .i64 0, .int .i64 0] 38 := by rw [← hY, ← hgf]; exact Bl.new _ _ _
                    have hl_gc : lim35 ≤ gc := by rw [← hgf, ← hlm35]; exact oo.size
                    (try rw [hY])
                    (try rw [hgf])
                    clear hY hgf
                    replace oo := oo.trans qA
                    refine hK.out _ _ ?hS185 (fun hHeld2 => ?rest185)
                    case hS185 => exact ⟨qA.cell hHeld.1 (.inr (Nat.zero_le _)), qA.cell hHeld.2 (.inr (Nat.zero_le _))⟩
                    clear qA
                    clear hK KK
                    (try clear hHeld)
                    have hHeld := hHeld2
                    clear hHeld2
                    (try simp only [Act.put, xa, xb, xc, xd, xe, xf])
                    refine tk 7 ?_
                    refine wpAnyH_ready (rs := [8]) (by kernel_rfl) (by simp) ?_
                    refine AllReadyH.cons rfl (fun KK hK => ?_) ?_
                    · simp only [xa, xb, xc]
                      have y0 := f_gc.cell (i := 0) rfl
                      have z0 := f_gc.frozen 0
                      have y1 := f_gc.cell (i := 1) rfl
                      have z1 := f_gc.frozen 1
                      go_simp
                      clear y0 z0 y1 z1
                      obtain ⟨Z35_1_2_6_8, hY⟩ : ∃ V, ((Z35_1_2_6.setCell ⟨gc, 0, none⟩ (.int .i64 0)).setCell ⟨gc, 1, none⟩ (.int .i64 0)) = V := ⟨_, rfl⟩
                      have qS : Out gc (gc + 1) Z35_1_2_6 Z35_1_2_6_8 := by rw [← hY]; exact ((Out.refl _ _ _).setCell (p := ⟨gc, 0, none⟩) (.inl ⟨Nat.le_refl _, Nat.lt_succ_self _⟩) _).setCell (p := ⟨gc, 1, none⟩) (.inl ⟨Nat.le_refl _, Nat.lt_succ_self _⟩) _
                      replace f_gc : Bl Z35_1_2_6_8 gc #[.int .i64 0, .int .i64 0] 38 := by rw [← hY]; exact ((f_gc.set 0 (.int .i64 0)).set 1 (.int .i64 0))
                      (try rw [hY])
                      clear hY
                      replace oo := oo.past qS (by omega)
                      refine hK.out _ _ ?hS187 (fun hHeld2 => ?rest187)
                      case hS187 => exact ⟨qS.cell hHeld.1 (by omega), qS.cell hHeld.2 (by omega)⟩
                      clear qS
                      clear hK KK
                      (try clear hHeld)
                      have hHeld := hHeld2
                      clear hHeld2
                      (try simp only [Act.put, xa, xb, xc, xd, xe, xf])
                      refine wpAnyH_done (by kernel_rfl) ?_ _
                      exact HC gc _ ⟨f_gc, oo⟩
                    · exact AllReadyH.nil
                  · exact AllReadyH.nil
                · refine AllReadyH.cons rfl (fun KK hK => ?_) ?_
                  · simp only [xa, xb, xc]
                    go_simp
                    obtain ⟨gc, hgf⟩ : ∃ g, Z35_1.heap.size = g := ⟨_, rfl⟩
                    obtain ⟨Z35_1_6, hY⟩ : ∃ V, Z35_1.alloc (.cells #[.int .i64 0, .int .i64 0] 38) = V := ⟨_, rfl⟩
                    have qA : Out 0 0 Z35_1 Z35_1_6 := by rw [← hY]; exact (Out.refl 0 0 _).alloc _
                    have f_gc : Bl Z35_1_6 gc #[.int .i64 0, .int .i64 0] 38 := by rw [← hY, ← hgf]; exact Bl.new _ _ _
                    have hl_gc : lim35 ≤ gc := by rw [← hgf, ← hlm35]; exact oo.size
                    (try rw [hY])
                    (try rw [hgf])
                    clear hY hgf
                    replace oo := oo.trans qA
                    refine hK.out _ _ ?hS188 (fun hHeld2 => ?rest188)
                    case hS188 => exact ⟨qA.cell hHeld.1 (.inr (Nat.zero_le _)), qA.cell hHeld.2 (.inr (Nat.zero_le _))⟩
                    clear qA
                    clear hK KK
                    (try clear hHeld)
                    have hHeld := hHeld2
                    clear hHeld2
                    (try simp only [Act.put, xa, xb, xc, xd, xe, xf])
                    refine wpAnyH_ready (rs := [2]) (by kernel_rfl) (by simp) ?_
                    refine AllReadyH.cons rfl (fun KK hK => ?_) ?_
                    · simp only [xa, xb, xc]
                      go_simp
                      refine (HG3.out _ (HOR3s.out.trans oo)).mono ?_
                      rintro e Z35_1_6_2 ⟨rfl, q1⟩
                      replace f_gc := f_gc.kept q1 (.inr (Nat.zero_le _))
                      replace oo := oo.trans q1
                      refine hK.out _ _ ?hS189 (fun hHeld2 => ?rest189)
                      case hS189 => exact ⟨q1.cell hHeld.1 (.inr (Nat.zero_le _)), q1.cell hHeld.2 (.inr (Nat.zero_le _))⟩
                      clear q1
                      clear hK KK
                      (try clear hHeld)
                      have hHeld := hHeld2
                      clear hHeld2
                      (try simp only [Act.put, xa, xb, xc, xd, xe, xf])
                      refine tk 3 ?_
                      refine tk 4 ?_
                      refine tk 5 ?_
                      refine tk 7 ?_
                      refine wpAnyH_ready (rs := [8]) (by kernel_rfl) (by simp) ?_
                      refine AllReadyH.cons rfl (fun KK hK => ?_) ?_
                      · simp only [xa, xb, xc]
                        have y0 := f_gc.cell (i := 0) rfl
                        have z0 := f_gc.frozen 0
                        have y1 := f_gc.cell (i := 1) rfl
                        have z1 := f_gc.frozen 1
                        go_simp
                        clear y0 z0 y1 z1
                        obtain ⟨Z35_1_6_2_8, hY⟩ : ∃ V, ((Z35_1_6_2.setCell ⟨gc, 0, none⟩ (.int .i64 0)).setCell ⟨gc, 1, none⟩ (.int .i64 0)) = V := ⟨_, rfl⟩
                        have qS : Out gc (gc + 1) Z35_1_6_2 Z35_1_6_2_8 := by rw [← hY]; exact ((Out.refl _ _ _).setCell (p := ⟨gc, 0, none⟩) (.inl ⟨Nat.le_refl _, Nat.lt_succ_self _⟩) _).setCell (p := ⟨gc, 1, none⟩) (.inl ⟨Nat.le_refl _, Nat.lt_succ_self _⟩) _
                        replace f_gc : Bl Z35_1_6_2_8 gc #[.int .i64 0, .int .i64 0] 38 := by rw [← hY]; exact ((f_gc.set 0 (.int .i64 0)).set 1 (.int .i64 0))
                        (try rw [hY])
                        clear hY
                        replace oo := oo.past qS (by omega)
                        refine hK.out _ _ ?hS194 (fun hHeld2 => ?rest194)
                        case hS194 => exact ⟨qS.cell hHeld.1 (by omega), qS.cell hHeld.2 (by omega)⟩
                        clear qS
                        clear hK KK
                        (try clear hHeld)
                        have hHeld := hHeld2
                        clear hHeld2
                        (try simp only [Act.put, xa, xb, xc, xd, xe, xf])
                        refine wpAnyH_done (by kernel_rfl) ?_ _
                        exact HC gc _ ⟨f_gc, oo⟩
                      · exact AllReadyH.nil
                    · exact AllReadyH.nil
                  · exact AllReadyH.nil
              · refine AllReadyH.cons rfl (fun KK hK => ?_) ?_
                · simp only [xa, xb, xc]
                  go_simp
                  obtain ⟨gc, hgf⟩ : ∃ g, Z35.heap.size = g := ⟨_, rfl⟩
                  obtain ⟨Z35_6, hY⟩ : ∃ V, Z35.alloc (.cells #[.int .i64 0, .int .i64 0] 38) = V := ⟨_, rfl⟩
                  have qA : Out 0 0 Z35 Z35_6 := by rw [← hY]; exact (Out.refl 0 0 _).alloc _
                  have f_gc : Bl Z35_6 gc #[.int .i64 0, .int .i64 0] 38 := by rw [← hY, ← hgf]; exact Bl.new _ _ _
                  have hl_gc : lim35 ≤ gc := by rw [← hgf, ← hlm35]; exact oo.size
                  (try rw [hY])
                  (try rw [hgf])
                  clear hY hgf
                  replace oo := oo.trans qA
                  refine hK.out _ _ ?hS195 (fun hHeld2 => ?rest195)
                  case hS195 => exact ⟨qA.cell hHeld.1 (.inr (Nat.zero_le _)), qA.cell hHeld.2 (.inr (Nat.zero_le _))⟩
                  clear qA
                  clear hK KK
                  (try clear hHeld)
                  have hHeld := hHeld2
                  clear hHeld2
                  (try simp only [Act.put, xa, xb, xc, xd, xe, xf])
                  refine wpAnyH_ready (rs := [1]) (by kernel_rfl) (by simp) ?_
                  refine AllReadyH.cons rfl (fun KK hK => ?_) ?_
                  · simp only [xa, xb, xc]
                    go_simp
                    refine (ref_any 1 _).mono ?_
                    rintro e Z35_6_1 ⟨rfl, q1⟩
                    replace f_gc := f_gc.kept q1 (.inr (Nat.zero_le _))
                    replace oo := oo.trans q1
                    refine hK.out _ _ ?hS196 (fun hHeld2 => ?rest196)
                    case hS196 => exact ⟨q1.cell hHeld.1 (.inr (Nat.zero_le _)), q1.cell hHeld.2 (.inr (Nat.zero_le _))⟩
                    clear q1
                    clear hK KK
                    (try clear hHeld)
                    have hHeld := hHeld2
                    clear hHeld2
                    (try simp only [Act.put, xa, xb, xc, xd, xe, xf])
                    refine wpAnyH_ready (rs := [2]) (by kernel_rfl) (by simp) ?_
                    refine AllReadyH.cons rfl (fun KK hK => ?_) ?_
                    · simp only [xa, xb, xc]
                      go_simp
                      refine (HG3.out _ (HOR3s.out.trans oo)).mono ?_
                      rintro e Z35_6_1_2 ⟨rfl, q1⟩
                      replace f_gc := f_gc.kept q1 (.inr (Nat.zero_le _))
                      replace oo := oo.trans q1
                      refine hK.out _ _ ?hS197 (fun hHeld2 => ?rest197)
                      case hS197 => exact ⟨q1.cell hHeld.1 (.inr (Nat.zero_le _)), q1.cell hHeld.2 (.inr (Nat.zero_le _))⟩
                      clear q1
                      clear hK KK
                      (try clear hHeld)
                      have hHeld := hHeld2
                      clear hHeld2
                      (try simp only [Act.put, xa, xb, xc, xd, xe, xf])
                      refine tk 3 ?_
                      refine tk 4 ?_
                      refine tk 5 ?_
                      refine tk 7 ?_
                      refine wpAnyH_ready (rs := [8]) (by kernel_rfl) (by simp) ?_
                      refine AllReadyH.cons rfl (fun KK hK => ?_) ?_
                      · simp only [xa, xb, xc]
                        have y0 := f_gc.cell (i := 0) rfl
                        have z0 := f_gc.frozen 0
                        have y1 := f_gc.cell (i := 1) rfl
                        have z1 := f_gc.frozen 1
                        go_simp
                        clear y0 z0 y1 z1
                        obtain ⟨Z35_6_1_2_8, hY⟩ : ∃ V, ((Z35_6_1_2.setCell ⟨gc, 0, none⟩ (.int .i64 0)).setCell ⟨gc, 1, none⟩ (.int .i64 0)) = V := ⟨_, rfl⟩
                        have qS : Out gc (gc + 1) Z35_6_1_2 Z35_6_1_2_8 := by rw [← hY]; exact ((Out.refl _ _ _).setCell (p := ⟨gc, 0, none⟩) (.inl ⟨Nat.le_refl _, Nat.lt_succ_self _⟩) _).setCell (p := ⟨gc, 1, none⟩) (.inl ⟨Nat.le_refl _, Nat.lt_succ_self _⟩) _
                        replace f_gc : Bl Z35_6_1_2_8 gc #[.int .i64 0, .int .i64 0] 38 := by rw [← hY]; exact ((f_gc.set 0 (.int .i64 0)).set 1 (.int .i64 0))
                        (try rw [hY])
                        clear hY
                        replace oo := oo.past qS (by omega)
                        refine hK.out _ _ ?hS202 (fun hHeld2 => ?rest202)
                        case hS202 => exact ⟨qS.cell hHeld.1 (by omega), qS.cell hHeld.2 (by omega)⟩
                        clear qS
                        clear hK KK
                        (try clear hHeld)
                        have hHeld := hHeld2
                        clear hHeld2
                        (try simp only [Act.put, xa, xb, xc, xd, xe, xf])
                        refine wpAnyH_done (by kernel_rfl) ?_ _
                        exact HC gc _ ⟨f_gc, oo⟩
                      · exact AllReadyH.nil
                    · exact AllReadyH.nil
                  · exact AllReadyH.nil
                · exact AllReadyH.nil
            case h2 =>
              rintro gc X3 ⟨kF3, oV3⟩
              refine hK3 _ _ ?_
              have HOR3 := hid_mk (HOR3s.out.trans oV3)
              have HF3 := hid_mk kF3
              have HF1 := hid_mk (HF1.out.kept oV3 (.inr (Nat.zero_le _)))
              have HF2 := hid_mk (HF2.out.kept oV3 (.inr (Nat.zero_le _)))
              clear kF3 oV3 g0 g1 hAl hK3
              have z0 := HF1.out.cell (i := 0) rfl
              have z1 := HF1.out.cell (i := 1) rfl
              go_wp2_with (go_at_call 9; refine (good_ok _).mono ?_; rintro e w4 ⟨rfl, o4⟩; have HOR3 := hid_mk (HOR3.out.trans o4); have HF1 := hid_mk (HF1.out.kept o4 (.inr (Nat.zero_le _))); have HF2 := hid_mk (HF2.out.kept o4 (.inr (Nat.zero_le _))); have HF3 := hid_mk (HF3.out.kept o4 (.inr (Nat.zero_le _))); have y0 := HF2.out.cell (i := 0) rfl; have y1 := HF2.out.cell (i := 1) rfl; have v0 := HF3.out.cell (i := 0) rfl; have v1 := HF3.out.cell (i := 1) rfl; clear o4)
              go_ret
              exact ⟨rfl, HWR.out.trans HOR3.out⟩
      · skip
        have q3 : (500 : Int) < 2 * (N : Int) + 1 := by omega
        have q4 : (500 : Int) < (N : Int) + 1 := by omega
        have hT1 : txtS 1 N false = ⟨#[35, 60, 108, 97, 114, 103, 101, 62]⟩ := (txt_list HN.out.1).trans (if_neg (by omega))
        have hT2 : txtS 1 N true = ⟨#[35, 60, 108, 97, 114, 103, 101, 62]⟩ := (txt_ring HN.out.1).trans (if_neg (by omega))
        have hT3 : txtS 2 N false = ⟨#[35, 60, 108, 97, 114, 103, 101, 62]⟩ := (txt_boxes HN.out.1).trans (if_neg (by omega))
        have HG1 : Hid (∀ w, Out 0 0 wr w → Calls Tryd.prog 8 #[.agg #[.slice (some ⟨L1, 0, none⟩) N c1, .slice none 0 0], .agg #[.int .i64 2, .int .i64 1]] w fun e w' => e = .returned (.tuple #[.string (⟨#[35, 60, 108, 97, 114, 103, 101, 62]⟩), .agg #[.int .i64 0, .int .i64 0]]) ∧ Out 0 0 w w') := hid_mk (fun w o => hT1 ▸ graph_chain (.inl rfl) (fun h => rfl) HN.out (hG1.kept o) (HT.out.out (HWR.out.trans o)) (Nat.le_trans H8.out (HWR.out.trans o).size))
        have HG2 : Hid (∀ w, Out 0 0 wr w → Calls Tryd.prog 8 #[.agg #[.slice (some ⟨L2, 0, none⟩) N c2, .slice none 0 0], .agg #[.int .i64 2, .int .i64 1]] w fun e w' => e = .returned (.tuple #[.string (⟨#[35, 60, 108, 97, 114, 103, 101, 62]⟩), .agg #[.int .i64 0, .int .i64 0]]) ∧ Out 0 0 w w') := hid_mk (fun w o => hT2 ▸ graph_chain (.inl rfl) (fun h => absurd h (by decide)) HN.out (hG2.kept o) (HT.out.out (HWR.out.trans o)) (Nat.le_trans H8.out (HWR.out.trans o).size))
        have HG3 : Hid (∀ w, Out 0 0 wr w → Calls Tryd.prog 8 #[.agg #[.slice (some ⟨L3, 0, none⟩) N c3, .slice none 0 0], .agg #[.int .i64 2, .int .i64 1]] w fun e w' => e = .returned (.tuple #[.string (⟨#[35, 60, 108, 97, 114, 103, 101, 62]⟩), .agg #[.int .i64 0, .int .i64 0]]) ∧ Out 0 0 w w') := hid_mk (fun w o => hT3 ▸ graph_chain (.inr rfl) (fun _ => rfl) HN.out (hG3.kept o) (HT.out.out (HWR.out.trans o)) (Nat.le_trans H8.out (HWR.out.trans o).size))
        clear hT1 hT2 hT3 hG1 hG2 hG3
        go_wp2_with fail
        rename_i K1 hK1
        have oR1 : Out 0 0 wr wr := Out.refl _ _ _
        have HOR1s := hid_mk oR1
        have g0 := HN1.out.cell0
        have g1 := HN1.out.cell1
        replace g0 := oR1.cell g0 (.inr (Nat.zero_le _))
        replace g1 := oR1.cell g1 (.inr (Nat.zero_le _))
        have hAl := cell_lt g0
        clear oR1
        apply cut1 (K := K1) (F := fun ga V => Bl V ga #[.int .i64 0, .int .i64 0] 38 ∧ Out 0 0 wr V)
        case h1 =>
          intro HC
          obtain ⟨lim33, hlm33⟩ : ∃ l, wr.heap.size = l := ⟨_, rfl⟩
          refine wp_region_held_drew (S := fun w' => w'.cell? ⟨A, 0, none⟩ = some (.slice (some ⟨L1, 0, none⟩) N c1) ∧ w'.cell? ⟨A, 1, none⟩ = some (.slice none 0 0)) (by kernel_rfl) ?hS203 (fun hHeld => ?rest203)
          case hS203 => exact ⟨g0, g1⟩
          obtain ⟨Z33, hZ⟩ : ∃ Z, wr.drew = Z := ⟨_, rfl⟩
          have oZ : Out 0 0 wr Z33 := by rw [← hZ]; exact (Out.refl 0 0 _).drew
          have oo := oZ
          rw [hZ] at hHeld ⊢
          clear hZ oZ
          refine tk 0 ?_
          refine wpAnyH_ready (rs := [1, 6]) (by kernel_rfl) (by simp) ?_
          refine AllReadyH.cons rfl (fun KK hK => ?_) ?_
          · simp only [xa, xb, xc]
            go_simp
            refine (ref_any 1 _).mono ?_
            rintro e Z33_1 ⟨rfl, q1⟩
            replace oo := oo.trans q1
            refine hK.out _ _ ?hS205 (fun hHeld2 => ?rest205)
            case hS205 => exact ⟨q1.cell hHeld.1 (.inr (Nat.zero_le _)), q1.cell hHeld.2 (.inr (Nat.zero_le _))⟩
            clear q1
            clear hK KK
            (try clear hHeld)
            have hHeld := hHeld2
            clear hHeld2
            (try simp only [Act.put, xa, xb, xc, xd, xe, xf])
            refine wpAnyH_ready (rs := [2, 6]) (by kernel_rfl) (by simp) ?_
            refine AllReadyH.cons rfl (fun KK hK => ?_) ?_
            · simp only [xa, xb, xc]
              go_simp
              refine (HG1.out _ (HOR1s.out.trans oo)).mono ?_
              rintro e Z33_1_2 ⟨rfl, q1⟩
              replace oo := oo.trans q1
              refine hK.out _ _ ?hS206 (fun hHeld2 => ?rest206)
              case hS206 => exact ⟨q1.cell hHeld.1 (.inr (Nat.zero_le _)), q1.cell hHeld.2 (.inr (Nat.zero_le _))⟩
              clear q1
              clear hK KK
              (try clear hHeld)
              have hHeld := hHeld2
              clear hHeld2
              (try simp only [Act.put, xa, xb, xc, xd, xe, xf])
              refine tk 3 ?_
              refine tk 4 ?_
              refine tk 5 ?_
              refine wpAnyH_ready (rs := [6]) (by kernel_rfl) (by simp) ?_
              refine AllReadyH.cons rfl (fun KK hK => ?_) ?_
              · simp only [xa, xb, xc]
                go_simp
                obtain ⟨ga, hgf⟩ : ∃ g, Z33_1_2.heap.size = g := ⟨_, rfl⟩
                obtain ⟨Z33_1_2_6, hY⟩ : ∃ V, Z33_1_2.alloc (.cells #[.int .i64 0, .int .i64 0] 38) = V := ⟨_, rfl⟩
                have qA : Out 0 0 Z33_1_2 Z33_1_2_6 := by rw [← hY]; exact (Out.refl 0 0 _).alloc _
                have f_ga : Bl Z33_1_2_6 ga #[.int .i64 0, .int .i64 0] 38 := by rw [← hY, ← hgf]; exact Bl.new _ _ _
                have hl_ga : lim33 ≤ ga := by rw [← hgf, ← hlm33]; exact oo.size
                (try rw [hY])
                (try rw [hgf])
                clear hY hgf
                replace oo := oo.trans qA
                refine hK.out _ _ ?hS210 (fun hHeld2 => ?rest210)
                case hS210 => exact ⟨qA.cell hHeld.1 (.inr (Nat.zero_le _)), qA.cell hHeld.2 (.inr (Nat.zero_le _))⟩
                clear qA
                clear hK KK
                (try clear hHeld)
                have hHeld := hHeld2
                clear hHeld2
                (try simp only [Act.put, xa, xb, xc, xd, xe, xf])
                refine tk 7 ?_
                refine wpAnyH_ready (rs := [8]) (by kernel_rfl) (by simp) ?_
                refine AllReadyH.cons rfl (fun KK hK => ?_) ?_
                · simp only [xa, xb, xc]
                  have y0 := f_ga.cell (i := 0) rfl
                  have z0 := f_ga.frozen 0
                  have y1 := f_ga.cell (i := 1) rfl
                  have z1 := f_ga.frozen 1
                  go_simp
                  clear y0 z0 y1 z1
                  obtain ⟨Z33_1_2_6_8, hY⟩ : ∃ V, ((Z33_1_2_6.setCell ⟨ga, 0, none⟩ (.int .i64 0)).setCell ⟨ga, 1, none⟩ (.int .i64 0)) = V := ⟨_, rfl⟩
                  have qS : Out ga (ga + 1) Z33_1_2_6 Z33_1_2_6_8 := by rw [← hY]; exact ((Out.refl _ _ _).setCell (p := ⟨ga, 0, none⟩) (.inl ⟨Nat.le_refl _, Nat.lt_succ_self _⟩) _).setCell (p := ⟨ga, 1, none⟩) (.inl ⟨Nat.le_refl _, Nat.lt_succ_self _⟩) _
                  replace f_ga : Bl Z33_1_2_6_8 ga #[.int .i64 0, .int .i64 0] 38 := by rw [← hY]; exact ((f_ga.set 0 (.int .i64 0)).set 1 (.int .i64 0))
                  (try rw [hY])
                  clear hY
                  replace oo := oo.past qS (by omega)
                  refine hK.out _ _ ?hS212 (fun hHeld2 => ?rest212)
                  case hS212 => exact ⟨qS.cell hHeld.1 (by omega), qS.cell hHeld.2 (by omega)⟩
                  clear qS
                  clear hK KK
                  (try clear hHeld)
                  have hHeld := hHeld2
                  clear hHeld2
                  (try simp only [Act.put, xa, xb, xc, xd, xe, xf])
                  refine wpAnyH_done (by kernel_rfl) ?_ _
                  exact HC ga _ ⟨f_ga, oo⟩
                · exact AllReadyH.nil
              · exact AllReadyH.nil
            · refine AllReadyH.cons rfl (fun KK hK => ?_) ?_
              · simp only [xa, xb, xc]
                go_simp
                obtain ⟨ga, hgf⟩ : ∃ g, Z33_1.heap.size = g := ⟨_, rfl⟩
                obtain ⟨Z33_1_6, hY⟩ : ∃ V, Z33_1.alloc (.cells #[.int .i64 0, .int .i64 0] 38) = V := ⟨_, rfl⟩
                have qA : Out 0 0 Z33_1 Z33_1_6 := by rw [← hY]; exact (Out.refl 0 0 _).alloc _
                have f_ga : Bl Z33_1_6 ga #[.int .i64 0, .int .i64 0] 38 := by rw [← hY, ← hgf]; exact Bl.new _ _ _
                have hl_ga : lim33 ≤ ga := by rw [← hgf, ← hlm33]; exact oo.size
                (try rw [hY])
                (try rw [hgf])
                clear hY hgf
                replace oo := oo.trans qA
                refine hK.out _ _ ?hS213 (fun hHeld2 => ?rest213)
                case hS213 => exact ⟨qA.cell hHeld.1 (.inr (Nat.zero_le _)), qA.cell hHeld.2 (.inr (Nat.zero_le _))⟩
                clear qA
                clear hK KK
                (try clear hHeld)
                have hHeld := hHeld2
                clear hHeld2
                (try simp only [Act.put, xa, xb, xc, xd, xe, xf])
                refine wpAnyH_ready (rs := [2]) (by kernel_rfl) (by simp) ?_
                refine AllReadyH.cons rfl (fun KK hK => ?_) ?_
                · simp only [xa, xb, xc]
                  go_simp
                  refine (HG1.out _ (HOR1s.out.trans oo)).mono ?_
                  rintro e Z33_1_6_2 ⟨rfl, q1⟩
                  replace f_ga := f_ga.kept q1 (.inr (Nat.zero_le _))
                  replace oo := oo.trans q1
                  refine hK.out _ _ ?hS214 (fun hHeld2 => ?rest214)
                  case hS214 => exact ⟨q1.cell hHeld.1 (.inr (Nat.zero_le _)), q1.cell hHeld.2 (.inr (Nat.zero_le _))⟩
                  clear q1
                  clear hK KK
                  (try clear hHeld)
                  have hHeld := hHeld2
                  clear hHeld2
                  (try simp only [Act.put, xa, xb, xc, xd, xe, xf])
                  refine tk 3 ?_
                  refine tk 4 ?_
                  refine tk 5 ?_
                  refine tk 7 ?_
                  refine wpAnyH_ready (rs := [8]) (by kernel_rfl) (by simp) ?_
                  refine AllReadyH.cons rfl (fun KK hK => ?_) ?_
                  · simp only [xa, xb, xc]
                    have y0 := f_ga.cell (i := 0) rfl
                    have z0 := f_ga.frozen 0
                    have y1 := f_ga.cell (i := 1) rfl
                    have z1 := f_ga.frozen 1
                    go_simp
                    clear y0 z0 y1 z1
                    obtain ⟨Z33_1_6_2_8, hY⟩ : ∃ V, ((Z33_1_6_2.setCell ⟨ga, 0, none⟩ (.int .i64 0)).setCell ⟨ga, 1, none⟩ (.int .i64 0)) = V := ⟨_, rfl⟩
                    have qS : Out ga (ga + 1) Z33_1_6_2 Z33_1_6_2_8 := by rw [← hY]; exact ((Out.refl _ _ _).setCell (p := ⟨ga, 0, none⟩) (.inl ⟨Nat.le_refl _, Nat.lt_succ_self _⟩) _).setCell (p := ⟨ga, 1, none⟩) (.inl ⟨Nat.le_refl _, Nat.lt_succ_self _⟩) _
                    replace f_ga : Bl Z33_1_6_2_8 ga #[.int .i64 0, .int .i64 0] 38 := by rw [← hY]; exact ((f_ga.set 0 (.int .i64 0)).set 1 (.int .i64 0))
                    (try rw [hY])
                    clear hY
                    replace oo := oo.past qS (by omega)
                    refine hK.out _ _ ?hS219 (fun hHeld2 => ?rest219)
                    case hS219 => exact ⟨qS.cell hHeld.1 (by omega), qS.cell hHeld.2 (by omega)⟩
                    clear qS
                    clear hK KK
                    (try clear hHeld)
                    have hHeld := hHeld2
                    clear hHeld2
                    (try simp only [Act.put, xa, xb, xc, xd, xe, xf])
                    refine wpAnyH_done (by kernel_rfl) ?_ _
                    exact HC ga _ ⟨f_ga, oo⟩
                  · exact AllReadyH.nil
                · exact AllReadyH.nil
              · exact AllReadyH.nil
          · refine AllReadyH.cons rfl (fun KK hK => ?_) ?_
            · simp only [xa, xb, xc]
              go_simp
              obtain ⟨ga, hgf⟩ : ∃ g, Z33.heap.size = g := ⟨_, rfl⟩
              obtain ⟨Z33_6, hY⟩ : ∃ V, Z33.alloc (.cells #[.int .i64 0, .int .i64 0] 38) = V := ⟨_, rfl⟩
              have qA : Out 0 0 Z33 Z33_6 := by rw [← hY]; exact (Out.refl 0 0 _).alloc _
              have f_ga : Bl Z33_6 ga #[.int .i64 0, .int .i64 0] 38 := by rw [← hY, ← hgf]; exact Bl.new _ _ _
              have hl_ga : lim33 ≤ ga := by rw [← hgf, ← hlm33]; exact oo.size
              (try rw [hY])
              (try rw [hgf])
              clear hY hgf
              replace oo := oo.trans qA
              refine hK.out _ _ ?hS220 (fun hHeld2 => ?rest220)
              case hS220 => exact ⟨qA.cell hHeld.1 (.inr (Nat.zero_le _)), qA.cell hHeld.2 (.inr (Nat.zero_le _))⟩
              clear qA
              clear hK KK
              (try clear hHeld)
              have hHeld := hHeld2
              clear hHeld2
              (try simp only [Act.put, xa, xb, xc, xd, xe, xf])
              refine wpAnyH_ready (rs := [1]) (by kernel_rfl) (by simp) ?_
              refine AllReadyH.cons rfl (fun KK hK => ?_) ?_
              · simp only [xa, xb, xc]
                go_simp
                refine (ref_any 1 _).mono ?_
                rintro e Z33_6_1 ⟨rfl, q1⟩
                replace f_ga := f_ga.kept q1 (.inr (Nat.zero_le _))
                replace oo := oo.trans q1
                refine hK.out _ _ ?hS221 (fun hHeld2 => ?rest221)
                case hS221 => exact ⟨q1.cell hHeld.1 (.inr (Nat.zero_le _)), q1.cell hHeld.2 (.inr (Nat.zero_le _))⟩
                clear q1
                clear hK KK
                (try clear hHeld)
                have hHeld := hHeld2
                clear hHeld2
                (try simp only [Act.put, xa, xb, xc, xd, xe, xf])
                refine wpAnyH_ready (rs := [2]) (by kernel_rfl) (by simp) ?_
                refine AllReadyH.cons rfl (fun KK hK => ?_) ?_
                · simp only [xa, xb, xc]
                  go_simp
                  refine (HG1.out _ (HOR1s.out.trans oo)).mono ?_
                  rintro e Z33_6_1_2 ⟨rfl, q1⟩
                  replace f_ga := f_ga.kept q1 (.inr (Nat.zero_le _))
                  replace oo := oo.trans q1
                  refine hK.out _ _ ?hS222 (fun hHeld2 => ?rest222)
                  case hS222 => exact ⟨q1.cell hHeld.1 (.inr (Nat.zero_le _)), q1.cell hHeld.2 (.inr (Nat.zero_le _))⟩
                  clear q1
                  clear hK KK
                  (try clear hHeld)
                  have hHeld := hHeld2
                  clear hHeld2
                  (try simp only [Act.put, xa, xb, xc, xd, xe, xf])
                  refine tk 3 ?_
                  refine tk 4 ?_
                  refine tk 5 ?_
                  refine tk 7 ?_
                  refine wpAnyH_ready (rs := [8]) (by kernel_rfl) (by simp) ?_
                  refine AllReadyH.cons rfl (fun KK hK => ?_) ?_
                  · simp only [xa, xb, xc]
                    have y0 := f_ga.cell (i := 0) rfl
                    have z0 := f_ga.frozen 0
                    have y1 := f_ga.cell (i := 1) rfl
                    have z1 := f_ga.frozen 1
                    go_simp
                    clear y0 z0 y1 z1
                    obtain ⟨Z33_6_1_2_8, hY⟩ : ∃ V, ((Z33_6_1_2.setCell ⟨ga, 0, none⟩ (.int .i64 0)).setCell ⟨ga, 1, none⟩ (.int .i64 0)) = V := ⟨_, rfl⟩
                    have qS : Out ga (ga + 1) Z33_6_1_2 Z33_6_1_2_8 := by rw [← hY]; exact ((Out.refl _ _ _).setCell (p := ⟨ga, 0, none⟩) (.inl ⟨Nat.le_refl _, Nat.lt_succ_self _⟩) _).setCell (p := ⟨ga, 1, none⟩) (.inl ⟨Nat.le_refl _, Nat.lt_succ_self _⟩) _
                    replace f_ga : Bl Z33_6_1_2_8 ga #[.int .i64 0, .int .i64 0] 38 := by rw [← hY]; exact ((f_ga.set 0 (.int .i64 0)).set 1 (.int .i64 0))
                    (try rw [hY])
                    clear hY
                    replace oo := oo.past qS (by omega)
                    refine hK.out _ _ ?hS227 (fun hHeld2 => ?rest227)
                    case hS227 => exact ⟨qS.cell hHeld.1 (by omega), qS.cell hHeld.2 (by omega)⟩
                    clear qS
                    clear hK KK
                    (try clear hHeld)
                    have hHeld := hHeld2
                    clear hHeld2
                    (try simp only [Act.put, xa, xb, xc, xd, xe, xf])
                    refine wpAnyH_done (by kernel_rfl) ?_ _
                    exact HC ga _ ⟨f_ga, oo⟩
                  · exact AllReadyH.nil
                · exact AllReadyH.nil
              · exact AllReadyH.nil
            · exact AllReadyH.nil
        case h2 =>
          rintro ga X1 ⟨kF1, oV1⟩
          refine hK1 _ _ ?_
          have HOR1 := hid_mk (HOR1s.out.trans oV1)
          have HF1 := hid_mk kF1
          clear kF1 oV1 g0 g1 hAl hK1
          go_wp2_with fail
          rename_i K2 hK2
          have oR2 : Out 0 0 wr X1 := HOR1.out
          have HOR2s := hid_mk oR2
          have g0 := HN2.out.cell0
          have g1 := HN2.out.cell1
          replace g0 := oR2.cell g0 (.inr (Nat.zero_le _))
          replace g1 := oR2.cell g1 (.inr (Nat.zero_le _))
          have hAl := cell_lt g0
          clear oR2
          apply cut1 (K := K2) (F := fun gb V => Bl V gb #[.int .i64 0, .int .i64 0] 38 ∧ Out 0 0 X1 V)
          case h1 =>
            intro HC
            obtain ⟨lim34, hlm34⟩ : ∃ l, X1.heap.size = l := ⟨_, rfl⟩
            refine wp_region_held_drew (S := fun w' => w'.cell? ⟨A + 1, 0, none⟩ = some (.slice (some ⟨L2, 0, none⟩) N c2) ∧ w'.cell? ⟨A + 1, 1, none⟩ = some (.slice none 0 0)) (by kernel_rfl) ?hS228 (fun hHeld => ?rest228)
            case hS228 => exact ⟨g0, g1⟩
            obtain ⟨Z34, hZ⟩ : ∃ Z, X1.drew = Z := ⟨_, rfl⟩
            have oZ : Out 0 0 X1 Z34 := by rw [← hZ]; exact (Out.refl 0 0 _).drew
            have oo := oZ
            rw [hZ] at hHeld ⊢
            clear hZ oZ
            refine tk 0 ?_
            refine wpAnyH_ready (rs := [1, 6]) (by kernel_rfl) (by simp) ?_
            refine AllReadyH.cons rfl (fun KK hK => ?_) ?_
            · simp only [xa, xb, xc]
              go_simp
              refine (ref_any 1 _).mono ?_
              rintro e Z34_1 ⟨rfl, q1⟩
              replace oo := oo.trans q1
              refine hK.out _ _ ?hS230 (fun hHeld2 => ?rest230)
              case hS230 => exact ⟨q1.cell hHeld.1 (.inr (Nat.zero_le _)), q1.cell hHeld.2 (.inr (Nat.zero_le _))⟩
              clear q1
              clear hK KK
              (try clear hHeld)
              have hHeld := hHeld2
              clear hHeld2
              (try simp only [Act.put, xa, xb, xc, xd, xe, xf])
              refine wpAnyH_ready (rs := [2, 6]) (by kernel_rfl) (by simp) ?_
              refine AllReadyH.cons rfl (fun KK hK => ?_) ?_
              · simp only [xa, xb, xc]
                go_simp
                refine (HG2.out _ (HOR2s.out.trans oo)).mono ?_
                rintro e Z34_1_2 ⟨rfl, q1⟩
                replace oo := oo.trans q1
                refine hK.out _ _ ?hS231 (fun hHeld2 => ?rest231)
                case hS231 => exact ⟨q1.cell hHeld.1 (.inr (Nat.zero_le _)), q1.cell hHeld.2 (.inr (Nat.zero_le _))⟩
                clear q1
                clear hK KK
                (try clear hHeld)
                have hHeld := hHeld2
                clear hHeld2
                (try simp only [Act.put, xa, xb, xc, xd, xe, xf])
                refine tk 3 ?_
                refine tk 4 ?_
                refine tk 5 ?_
                refine wpAnyH_ready (rs := [6]) (by kernel_rfl) (by simp) ?_
                refine AllReadyH.cons rfl (fun KK hK => ?_) ?_
                · simp only [xa, xb, xc]
                  go_simp
                  obtain ⟨gb, hgf⟩ : ∃ g, Z34_1_2.heap.size = g := ⟨_, rfl⟩
                  obtain ⟨Z34_1_2_6, hY⟩ : ∃ V, Z34_1_2.alloc (.cells #[.int .i64 0, .int .i64 0] 38) = V := ⟨_, rfl⟩
                  have qA : Out 0 0 Z34_1_2 Z34_1_2_6 := by rw [← hY]; exact (Out.refl 0 0 _).alloc _
                  have f_gb : Bl Z34_1_2_6 gb #[.int .i64 0, .int .i64 0] 38 := by rw [← hY, ← hgf]; exact Bl.new _ _ _
                  have hl_gb : lim34 ≤ gb := by rw [← hgf, ← hlm34]; exact oo.size
                  (try rw [hY])
                  (try rw [hgf])
                  clear hY hgf
                  replace oo := oo.trans qA
                  refine hK.out _ _ ?hS235 (fun hHeld2 => ?rest235)
                  case hS235 => exact ⟨qA.cell hHeld.1 (.inr (Nat.zero_le _)), qA.cell hHeld.2 (.inr (Nat.zero_le _))⟩
                  clear qA
                  clear hK KK
                  (try clear hHeld)
                  have hHeld := hHeld2
                  clear hHeld2
                  (try simp only [Act.put, xa, xb, xc, xd, xe, xf])
                  refine tk 7 ?_
                  refine wpAnyH_ready (rs := [8]) (by kernel_rfl) (by simp) ?_
                  refine AllReadyH.cons rfl (fun KK hK => ?_) ?_
                  · simp only [xa, xb, xc]
                    have y0 := f_gb.cell (i := 0) rfl
                    have z0 := f_gb.frozen 0
                    have y1 := f_gb.cell (i := 1) rfl
                    have z1 := f_gb.frozen 1
                    go_simp
                    clear y0 z0 y1 z1
                    obtain ⟨Z34_1_2_6_8, hY⟩ : ∃ V, ((Z34_1_2_6.setCell ⟨gb, 0, none⟩ (.int .i64 0)).setCell ⟨gb, 1, none⟩ (.int .i64 0)) = V := ⟨_, rfl⟩
                    have qS : Out gb (gb + 1) Z34_1_2_6 Z34_1_2_6_8 := by rw [← hY]; exact ((Out.refl _ _ _).setCell (p := ⟨gb, 0, none⟩) (.inl ⟨Nat.le_refl _, Nat.lt_succ_self _⟩) _).setCell (p := ⟨gb, 1, none⟩) (.inl ⟨Nat.le_refl _, Nat.lt_succ_self _⟩) _
                    replace f_gb : Bl Z34_1_2_6_8 gb #[.int .i64 0, .int .i64 0] 38 := by rw [← hY]; exact ((f_gb.set 0 (.int .i64 0)).set 1 (.int .i64 0))
                    (try rw [hY])
                    clear hY
                    replace oo := oo.past qS (by omega)
                    refine hK.out _ _ ?hS237 (fun hHeld2 => ?rest237)
                    case hS237 => exact ⟨qS.cell hHeld.1 (by omega), qS.cell hHeld.2 (by omega)⟩
                    clear qS
                    clear hK KK
                    (try clear hHeld)
                    have hHeld := hHeld2
                    clear hHeld2
                    (try simp only [Act.put, xa, xb, xc, xd, xe, xf])
                    refine wpAnyH_done (by kernel_rfl) ?_ _
                    exact HC gb _ ⟨f_gb, oo⟩
                  · exact AllReadyH.nil
                · exact AllReadyH.nil
              · refine AllReadyH.cons rfl (fun KK hK => ?_) ?_
                · simp only [xa, xb, xc]
                  go_simp
                  obtain ⟨gb, hgf⟩ : ∃ g, Z34_1.heap.size = g := ⟨_, rfl⟩
                  obtain ⟨Z34_1_6, hY⟩ : ∃ V, Z34_1.alloc (.cells #[.int .i64 0, .int .i64 0] 38) = V := ⟨_, rfl⟩
                  have qA : Out 0 0 Z34_1 Z34_1_6 := by rw [← hY]; exact (Out.refl 0 0 _).alloc _
                  have f_gb : Bl Z34_1_6 gb #[.int .i64 0, .int .i64 0] 38 := by rw [← hY, ← hgf]; exact Bl.new _ _ _
                  have hl_gb : lim34 ≤ gb := by rw [← hgf, ← hlm34]; exact oo.size
                  (try rw [hY])
                  (try rw [hgf])
                  clear hY hgf
                  replace oo := oo.trans qA
                  refine hK.out _ _ ?hS238 (fun hHeld2 => ?rest238)
                  case hS238 => exact ⟨qA.cell hHeld.1 (.inr (Nat.zero_le _)), qA.cell hHeld.2 (.inr (Nat.zero_le _))⟩
                  clear qA
                  clear hK KK
                  (try clear hHeld)
                  have hHeld := hHeld2
                  clear hHeld2
                  (try simp only [Act.put, xa, xb, xc, xd, xe, xf])
                  refine wpAnyH_ready (rs := [2]) (by kernel_rfl) (by simp) ?_
                  refine AllReadyH.cons rfl (fun KK hK => ?_) ?_
                  · simp only [xa, xb, xc]
                    go_simp
                    refine (HG2.out _ (HOR2s.out.trans oo)).mono ?_
                    rintro e Z34_1_6_2 ⟨rfl, q1⟩
                    replace f_gb := f_gb.kept q1 (.inr (Nat.zero_le _))
                    replace oo := oo.trans q1
                    refine hK.out _ _ ?hS239 (fun hHeld2 => ?rest239)
                    case hS239 => exact ⟨q1.cell hHeld.1 (.inr (Nat.zero_le _)), q1.cell hHeld.2 (.inr (Nat.zero_le _))⟩
                    clear q1
                    clear hK KK
                    (try clear hHeld)
                    have hHeld := hHeld2
                    clear hHeld2
                    (try simp only [Act.put, xa, xb, xc, xd, xe, xf])
                    refine tk 3 ?_
                    refine tk 4 ?_
                    refine tk 5 ?_
                    refine tk 7 ?_
                    refine wpAnyH_ready (rs := [8]) (by kernel_rfl) (by simp) ?_
                    refine AllReadyH.cons rfl (fun KK hK => ?_) ?_
                    · simp only [xa, xb, xc]
                      have y0 := f_gb.cell (i := 0) rfl
                      have z0 := f_gb.frozen 0
                      have y1 := f_gb.cell (i := 1) rfl
                      have z1 := f_gb.frozen 1
                      go_simp
                      clear y0 z0 y1 z1
                      obtain ⟨Z34_1_6_2_8, hY⟩ : ∃ V, ((Z34_1_6_2.setCell ⟨gb, 0, none⟩ (.int .i64 0)).setCell ⟨gb, 1, none⟩ (.int .i64 0)) = V := ⟨_, rfl⟩
                      have qS : Out gb (gb + 1) Z34_1_6_2 Z34_1_6_2_8 := by rw [← hY]; exact ((Out.refl _ _ _).setCell (p := ⟨gb, 0, none⟩) (.inl ⟨Nat.le_refl _, Nat.lt_succ_self _⟩) _).setCell (p := ⟨gb, 1, none⟩) (.inl ⟨Nat.le_refl _, Nat.lt_succ_self _⟩) _
                      replace f_gb : Bl Z34_1_6_2_8 gb #[.int .i64 0, .int .i64 0] 38 := by rw [← hY]; exact ((f_gb.set 0 (.int .i64 0)).set 1 (.int .i64 0))
                      (try rw [hY])
                      clear hY
                      replace oo := oo.past qS (by omega)
                      refine hK.out _ _ ?hS244 (fun hHeld2 => ?rest244)
                      case hS244 => exact ⟨qS.cell hHeld.1 (by omega), qS.cell hHeld.2 (by omega)⟩
                      clear qS
                      clear hK KK
                      (try clear hHeld)
                      have hHeld := hHeld2
                      clear hHeld2
                      (try simp only [Act.put, xa, xb, xc, xd, xe, xf])
                      refine wpAnyH_done (by kernel_rfl) ?_ _
                      exact HC gb _ ⟨f_gb, oo⟩
                    · exact AllReadyH.nil
                  · exact AllReadyH.nil
                · exact AllReadyH.nil
            · refine AllReadyH.cons rfl (fun KK hK => ?_) ?_
              · simp only [xa, xb, xc]
                go_simp
                obtain ⟨gb, hgf⟩ : ∃ g, Z34.heap.size = g := ⟨_, rfl⟩
                obtain ⟨Z34_6, hY⟩ : ∃ V, Z34.alloc (.cells #[.int .i64 0, .int .i64 0] 38) = V := ⟨_, rfl⟩
                have qA : Out 0 0 Z34 Z34_6 := by rw [← hY]; exact (Out.refl 0 0 _).alloc _
                have f_gb : Bl Z34_6 gb #[.int .i64 0, .int .i64 0] 38 := by rw [← hY, ← hgf]; exact Bl.new _ _ _
                have hl_gb : lim34 ≤ gb := by rw [← hgf, ← hlm34]; exact oo.size
                (try rw [hY])
                (try rw [hgf])
                clear hY hgf
                replace oo := oo.trans qA
                refine hK.out _ _ ?hS245 (fun hHeld2 => ?rest245)
                case hS245 => exact ⟨qA.cell hHeld.1 (.inr (Nat.zero_le _)), qA.cell hHeld.2 (.inr (Nat.zero_le _))⟩
                clear qA
                clear hK KK
                (try clear hHeld)
                have hHeld := hHeld2
                clear hHeld2
                (try simp only [Act.put, xa, xb, xc, xd, xe, xf])
                refine wpAnyH_ready (rs := [1]) (by kernel_rfl) (by simp) ?_
                refine AllReadyH.cons rfl (fun KK hK => ?_) ?_
                · simp only [xa, xb, xc]
                  go_simp
                  refine (ref_any 1 _).mono ?_
                  rintro e Z34_6_1 ⟨rfl, q1⟩
                  replace f_gb := f_gb.kept q1 (.inr (Nat.zero_le _))
                  replace oo := oo.trans q1
                  refine hK.out _ _ ?hS246 (fun hHeld2 => ?rest246)
                  case hS246 => exact ⟨q1.cell hHeld.1 (.inr (Nat.zero_le _)), q1.cell hHeld.2 (.inr (Nat.zero_le _))⟩
                  clear q1
                  clear hK KK
                  (try clear hHeld)
                  have hHeld := hHeld2
                  clear hHeld2
                  (try simp only [Act.put, xa, xb, xc, xd, xe, xf])
                  refine wpAnyH_ready (rs := [2]) (by kernel_rfl) (by simp) ?_
                  refine AllReadyH.cons rfl (fun KK hK => ?_) ?_
                  · simp only [xa, xb, xc]
                    go_simp
                    refine (HG2.out _ (HOR2s.out.trans oo)).mono ?_
                    rintro e Z34_6_1_2 ⟨rfl, q1⟩
                    replace f_gb := f_gb.kept q1 (.inr (Nat.zero_le _))
                    replace oo := oo.trans q1
                    refine hK.out _ _ ?hS247 (fun hHeld2 => ?rest247)
                    case hS247 => exact ⟨q1.cell hHeld.1 (.inr (Nat.zero_le _)), q1.cell hHeld.2 (.inr (Nat.zero_le _))⟩
                    clear q1
                    clear hK KK
                    (try clear hHeld)
                    have hHeld := hHeld2
                    clear hHeld2
                    (try simp only [Act.put, xa, xb, xc, xd, xe, xf])
                    refine tk 3 ?_
                    refine tk 4 ?_
                    refine tk 5 ?_
                    refine tk 7 ?_
                    refine wpAnyH_ready (rs := [8]) (by kernel_rfl) (by simp) ?_
                    refine AllReadyH.cons rfl (fun KK hK => ?_) ?_
                    · simp only [xa, xb, xc]
                      have y0 := f_gb.cell (i := 0) rfl
                      have z0 := f_gb.frozen 0
                      have y1 := f_gb.cell (i := 1) rfl
                      have z1 := f_gb.frozen 1
                      go_simp
                      clear y0 z0 y1 z1
                      obtain ⟨Z34_6_1_2_8, hY⟩ : ∃ V, ((Z34_6_1_2.setCell ⟨gb, 0, none⟩ (.int .i64 0)).setCell ⟨gb, 1, none⟩ (.int .i64 0)) = V := ⟨_, rfl⟩
                      have qS : Out gb (gb + 1) Z34_6_1_2 Z34_6_1_2_8 := by rw [← hY]; exact ((Out.refl _ _ _).setCell (p := ⟨gb, 0, none⟩) (.inl ⟨Nat.le_refl _, Nat.lt_succ_self _⟩) _).setCell (p := ⟨gb, 1, none⟩) (.inl ⟨Nat.le_refl _, Nat.lt_succ_self _⟩) _
                      replace f_gb : Bl Z34_6_1_2_8 gb #[.int .i64 0, .int .i64 0] 38 := by rw [← hY]; exact ((f_gb.set 0 (.int .i64 0)).set 1 (.int .i64 0))
                      (try rw [hY])
                      clear hY
                      replace oo := oo.past qS (by omega)
                      refine hK.out _ _ ?hS252 (fun hHeld2 => ?rest252)
                      case hS252 => exact ⟨qS.cell hHeld.1 (by omega), qS.cell hHeld.2 (by omega)⟩
                      clear qS
                      clear hK KK
                      (try clear hHeld)
                      have hHeld := hHeld2
                      clear hHeld2
                      (try simp only [Act.put, xa, xb, xc, xd, xe, xf])
                      refine wpAnyH_done (by kernel_rfl) ?_ _
                      exact HC gb _ ⟨f_gb, oo⟩
                    · exact AllReadyH.nil
                  · exact AllReadyH.nil
                · exact AllReadyH.nil
              · exact AllReadyH.nil
          case h2 =>
            rintro gb X2 ⟨kF2, oV2⟩
            refine hK2 _ _ ?_
            have HOR2 := hid_mk (HOR2s.out.trans oV2)
            have HF2 := hid_mk kF2
            have HF1 := hid_mk (HF1.out.kept oV2 (.inr (Nat.zero_le _)))
            clear kF2 oV2 g0 g1 hAl hK2
            go_wp2_with fail
            rename_i K3 hK3
            have oR3 : Out 0 0 wr X2 := HOR2.out
            have HOR3s := hid_mk oR3
            have g0 := HN3.out.cell0
            have g1 := HN3.out.cell1
            replace g0 := oR3.cell g0 (.inr (Nat.zero_le _))
            replace g1 := oR3.cell g1 (.inr (Nat.zero_le _))
            have hAl := cell_lt g0
            clear oR3
            apply cut1 (K := K3) (F := fun gc V => Bl V gc #[.int .i64 0, .int .i64 0] 38 ∧ Out 0 0 X2 V)
            case h1 =>
              intro HC
              obtain ⟨lim35, hlm35⟩ : ∃ l, X2.heap.size = l := ⟨_, rfl⟩
              refine wp_region_held_drew (S := fun w' => w'.cell? ⟨A + 1 + 1, 0, none⟩ = some (.slice (some ⟨L3, 0, none⟩) N c3) ∧ w'.cell? ⟨A + 1 + 1, 1, none⟩ = some (.slice none 0 0)) (by kernel_rfl) ?hS253 (fun hHeld => ?rest253)
              case hS253 => exact ⟨g0, g1⟩
              obtain ⟨Z35, hZ⟩ : ∃ Z, X2.drew = Z := ⟨_, rfl⟩
              have oZ : Out 0 0 X2 Z35 := by rw [← hZ]; exact (Out.refl 0 0 _).drew
              have oo := oZ
              rw [hZ] at hHeld ⊢
              clear hZ oZ
              refine tk 0 ?_
              refine wpAnyH_ready (rs := [1, 6]) (by kernel_rfl) (by simp) ?_
              refine AllReadyH.cons rfl (fun KK hK => ?_) ?_
              · simp only [xa, xb, xc]
                go_simp
                refine (ref_any 1 _).mono ?_
                rintro e Z35_1 ⟨rfl, q1⟩
                replace oo := oo.trans q1
                refine hK.out _ _ ?hS255 (fun hHeld2 => ?rest255)
                case hS255 => exact ⟨q1.cell hHeld.1 (.inr (Nat.zero_le _)), q1.cell hHeld.2 (.inr (Nat.zero_le _))⟩
                clear q1
                clear hK KK
                (try clear hHeld)
                have hHeld := hHeld2
                clear hHeld2
                (try simp only [Act.put, xa, xb, xc, xd, xe, xf])
                refine wpAnyH_ready (rs := [2, 6]) (by kernel_rfl) (by simp) ?_
                refine AllReadyH.cons rfl (fun KK hK => ?_) ?_
                · simp only [xa, xb, xc]
                  go_simp
                  refine (HG3.out _ (HOR3s.out.trans oo)).mono ?_
                  rintro e Z35_1_2 ⟨rfl, q1⟩
                  replace oo := oo.trans q1
                  refine hK.out _ _ ?hS256 (fun hHeld2 => ?rest256)
                  case hS256 => exact ⟨q1.cell hHeld.1 (.inr (Nat.zero_le _)), q1.cell hHeld.2 (.inr (Nat.zero_le _))⟩
                  clear q1
                  clear hK KK
                  (try clear hHeld)
                  have hHeld := hHeld2
                  clear hHeld2
                  (try simp only [Act.put, xa, xb, xc, xd, xe, xf])
                  refine tk 3 ?_
                  refine tk 4 ?_
                  refine tk 5 ?_
                  refine wpAnyH_ready (rs := [6]) (by kernel_rfl) (by simp) ?_
                  refine AllReadyH.cons rfl (fun KK hK => ?_) ?_
                  · simp only [xa, xb, xc]
                    go_simp
                    obtain ⟨gc, hgf⟩ : ∃ g, Z35_1_2.heap.size = g := ⟨_, rfl⟩
                    obtain ⟨Z35_1_2_6, hY⟩ : ∃ V, Z35_1_2.alloc (.cells #[.int .i64 0, .int .i64 0] 38) = V := ⟨_, rfl⟩
                    have qA : Out 0 0 Z35_1_2 Z35_1_2_6 := by rw [← hY]; exact (Out.refl 0 0 _).alloc _
                    have f_gc : Bl Z35_1_2_6 gc #[.int .i64 0, .int .i64 0] 38 := by rw [← hY, ← hgf]; exact Bl.new _ _ _
                    have hl_gc : lim35 ≤ gc := by rw [← hgf, ← hlm35]; exact oo.size
                    (try rw [hY])
                    (try rw [hgf])
                    clear hY hgf
                    replace oo := oo.trans qA
                    refine hK.out _ _ ?hS260 (fun hHeld2 => ?rest260)
                    case hS260 => exact ⟨qA.cell hHeld.1 (.inr (Nat.zero_le _)), qA.cell hHeld.2 (.inr (Nat.zero_le _))⟩
                    clear qA
                    clear hK KK
                    (try clear hHeld)
                    have hHeld := hHeld2
                    clear hHeld2
                    (try simp only [Act.put, xa, xb, xc, xd, xe, xf])
                    refine tk 7 ?_
                    refine wpAnyH_ready (rs := [8]) (by kernel_rfl) (by simp) ?_
                    refine AllReadyH.cons rfl (fun KK hK => ?_) ?_
                    · simp only [xa, xb, xc]
                      have y0 := f_gc.cell (i := 0) rfl
                      have z0 := f_gc.frozen 0
                      have y1 := f_gc.cell (i := 1) rfl
                      have z1 := f_gc.frozen 1
                      go_simp
                      clear y0 z0 y1 z1
                      obtain ⟨Z35_1_2_6_8, hY⟩ : ∃ V, ((Z35_1_2_6.setCell ⟨gc, 0, none⟩ (.int .i64 0)).setCell ⟨gc, 1, none⟩ (.int .i64 0)) = V := ⟨_, rfl⟩
                      have qS : Out gc (gc + 1) Z35_1_2_6 Z35_1_2_6_8 := by rw [← hY]; exact ((Out.refl _ _ _).setCell (p := ⟨gc, 0, none⟩) (.inl ⟨Nat.le_refl _, Nat.lt_succ_self _⟩) _).setCell (p := ⟨gc, 1, none⟩) (.inl ⟨Nat.le_refl _, Nat.lt_succ_self _⟩) _
                      replace f_gc : Bl Z35_1_2_6_8 gc #[.int .i64 0, .int .i64 0] 38 := by rw [← hY]; exact ((f_gc.set 0 (.int .i64 0)).set 1 (.int .i64 0))
                      (try rw [hY])
                      clear hY
                      replace oo := oo.past qS (by omega)
                      refine hK.out _ _ ?hS262 (fun hHeld2 => ?rest262)
                      case hS262 => exact ⟨qS.cell hHeld.1 (by omega), qS.cell hHeld.2 (by omega)⟩
                      clear qS
                      clear hK KK
                      (try clear hHeld)
                      have hHeld := hHeld2
                      clear hHeld2
                      (try simp only [Act.put, xa, xb, xc, xd, xe, xf])
                      refine wpAnyH_done (by kernel_rfl) ?_ _
                      exact HC gc _ ⟨f_gc, oo⟩
                    · exact AllReadyH.nil
                  · exact AllReadyH.nil
                · refine AllReadyH.cons rfl (fun KK hK => ?_) ?_
                  · simp only [xa, xb, xc]
                    go_simp
                    obtain ⟨gc, hgf⟩ : ∃ g, Z35_1.heap.size = g := ⟨_, rfl⟩
                    obtain ⟨Z35_1_6, hY⟩ : ∃ V, Z35_1.alloc (.cells #[.int .i64 0, .int .i64 0] 38) = V := ⟨_, rfl⟩
                    have qA : Out 0 0 Z35_1 Z35_1_6 := by rw [← hY]; exact (Out.refl 0 0 _).alloc _
                    have f_gc : Bl Z35_1_6 gc #[.int .i64 0, .int .i64 0] 38 := by rw [← hY, ← hgf]; exact Bl.new _ _ _
                    have hl_gc : lim35 ≤ gc := by rw [← hgf, ← hlm35]; exact oo.size
                    (try rw [hY])
                    (try rw [hgf])
                    clear hY hgf
                    replace oo := oo.trans qA
                    refine hK.out _ _ ?hS263 (fun hHeld2 => ?rest263)
                    case hS263 => exact ⟨qA.cell hHeld.1 (.inr (Nat.zero_le _)), qA.cell hHeld.2 (.inr (Nat.zero_le _))⟩
                    clear qA
                    clear hK KK
                    (try clear hHeld)
                    have hHeld := hHeld2
                    clear hHeld2
                    (try simp only [Act.put, xa, xb, xc, xd, xe, xf])
                    refine wpAnyH_ready (rs := [2]) (by kernel_rfl) (by simp) ?_
                    refine AllReadyH.cons rfl (fun KK hK => ?_) ?_
                    · simp only [xa, xb, xc]
                      go_simp
                      refine (HG3.out _ (HOR3s.out.trans oo)).mono ?_
                      rintro e Z35_1_6_2 ⟨rfl, q1⟩
                      replace f_gc := f_gc.kept q1 (.inr (Nat.zero_le _))
                      replace oo := oo.trans q1
                      refine hK.out _ _ ?hS264 (fun hHeld2 => ?rest264)
                      case hS264 => exact ⟨q1.cell hHeld.1 (.inr (Nat.zero_le _)), q1.cell hHeld.2 (.inr (Nat.zero_le _))⟩
                      clear q1
                      clear hK KK
                      (try clear hHeld)
                      have hHeld := hHeld2
                      clear hHeld2
                      (try simp only [Act.put, xa, xb, xc, xd, xe, xf])
                      refine tk 3 ?_
                      refine tk 4 ?_
                      refine tk 5 ?_
                      refine tk 7 ?_
                      refine wpAnyH_ready (rs := [8]) (by kernel_rfl) (by simp) ?_
                      refine AllReadyH.cons rfl (fun KK hK => ?_) ?_
                      · simp only [xa, xb, xc]
                        have y0 := f_gc.cell (i := 0) rfl
                        have z0 := f_gc.frozen 0
                        have y1 := f_gc.cell (i := 1) rfl
                        have z1 := f_gc.frozen 1
                        go_simp
                        clear y0 z0 y1 z1
                        obtain ⟨Z35_1_6_2_8, hY⟩ : ∃ V, ((Z35_1_6_2.setCell ⟨gc, 0, none⟩ (.int .i64 0)).setCell ⟨gc, 1, none⟩ (.int .i64 0)) = V := ⟨_, rfl⟩
                        have qS : Out gc (gc + 1) Z35_1_6_2 Z35_1_6_2_8 := by rw [← hY]; exact ((Out.refl _ _ _).setCell (p := ⟨gc, 0, none⟩) (.inl ⟨Nat.le_refl _, Nat.lt_succ_self _⟩) _).setCell (p := ⟨gc, 1, none⟩) (.inl ⟨Nat.le_refl _, Nat.lt_succ_self _⟩) _
                        replace f_gc : Bl Z35_1_6_2_8 gc #[.int .i64 0, .int .i64 0] 38 := by rw [← hY]; exact ((f_gc.set 0 (.int .i64 0)).set 1 (.int .i64 0))
                        (try rw [hY])
                        clear hY
                        replace oo := oo.past qS (by omega)
                        refine hK.out _ _ ?hS269 (fun hHeld2 => ?rest269)
                        case hS269 => exact ⟨qS.cell hHeld.1 (by omega), qS.cell hHeld.2 (by omega)⟩
                        clear qS
                        clear hK KK
                        (try clear hHeld)
                        have hHeld := hHeld2
                        clear hHeld2
                        (try simp only [Act.put, xa, xb, xc, xd, xe, xf])
                        refine wpAnyH_done (by kernel_rfl) ?_ _
                        exact HC gc _ ⟨f_gc, oo⟩
                      · exact AllReadyH.nil
                    · exact AllReadyH.nil
                  · exact AllReadyH.nil
              · refine AllReadyH.cons rfl (fun KK hK => ?_) ?_
                · simp only [xa, xb, xc]
                  go_simp
                  obtain ⟨gc, hgf⟩ : ∃ g, Z35.heap.size = g := ⟨_, rfl⟩
                  obtain ⟨Z35_6, hY⟩ : ∃ V, Z35.alloc (.cells #[.int .i64 0, .int .i64 0] 38) = V := ⟨_, rfl⟩
                  have qA : Out 0 0 Z35 Z35_6 := by rw [← hY]; exact (Out.refl 0 0 _).alloc _
                  have f_gc : Bl Z35_6 gc #[.int .i64 0, .int .i64 0] 38 := by rw [← hY, ← hgf]; exact Bl.new _ _ _
                  have hl_gc : lim35 ≤ gc := by rw [← hgf, ← hlm35]; exact oo.size
                  (try rw [hY])
                  (try rw [hgf])
                  clear hY hgf
                  replace oo := oo.trans qA
                  refine hK.out _ _ ?hS270 (fun hHeld2 => ?rest270)
                  case hS270 => exact ⟨qA.cell hHeld.1 (.inr (Nat.zero_le _)), qA.cell hHeld.2 (.inr (Nat.zero_le _))⟩
                  clear qA
                  clear hK KK
                  (try clear hHeld)
                  have hHeld := hHeld2
                  clear hHeld2
                  (try simp only [Act.put, xa, xb, xc, xd, xe, xf])
                  refine wpAnyH_ready (rs := [1]) (by kernel_rfl) (by simp) ?_
                  refine AllReadyH.cons rfl (fun KK hK => ?_) ?_
                  · simp only [xa, xb, xc]
                    go_simp
                    refine (ref_any 1 _).mono ?_
                    rintro e Z35_6_1 ⟨rfl, q1⟩
                    replace f_gc := f_gc.kept q1 (.inr (Nat.zero_le _))
                    replace oo := oo.trans q1
                    refine hK.out _ _ ?hS271 (fun hHeld2 => ?rest271)
                    case hS271 => exact ⟨q1.cell hHeld.1 (.inr (Nat.zero_le _)), q1.cell hHeld.2 (.inr (Nat.zero_le _))⟩
                    clear q1
                    clear hK KK
                    (try clear hHeld)
                    have hHeld := hHeld2
                    clear hHeld2
                    (try simp only [Act.put, xa, xb, xc, xd, xe, xf])
                    refine wpAnyH_ready (rs := [2]) (by kernel_rfl) (by simp) ?_
                    refine AllReadyH.cons rfl (fun KK hK => ?_) ?_
                    · simp only [xa, xb, xc]
                      go_simp
                      refine (HG3.out _ (HOR3s.out.trans oo)).mono ?_
                      rintro e Z35_6_1_2 ⟨rfl, q1⟩
                      replace f_gc := f_gc.kept q1 (.inr (Nat.zero_le _))
                      replace oo := oo.trans q1
                      refine hK.out _ _ ?hS272 (fun hHeld2 => ?rest272)
                      case hS272 => exact ⟨q1.cell hHeld.1 (.inr (Nat.zero_le _)), q1.cell hHeld.2 (.inr (Nat.zero_le _))⟩
                      clear q1
                      clear hK KK
                      (try clear hHeld)
                      have hHeld := hHeld2
                      clear hHeld2
                      (try simp only [Act.put, xa, xb, xc, xd, xe, xf])
                      refine tk 3 ?_
                      refine tk 4 ?_
                      refine tk 5 ?_
                      refine tk 7 ?_
                      refine wpAnyH_ready (rs := [8]) (by kernel_rfl) (by simp) ?_
                      refine AllReadyH.cons rfl (fun KK hK => ?_) ?_
                      · simp only [xa, xb, xc]
                        have y0 := f_gc.cell (i := 0) rfl
                        have z0 := f_gc.frozen 0
                        have y1 := f_gc.cell (i := 1) rfl
                        have z1 := f_gc.frozen 1
                        go_simp
                        clear y0 z0 y1 z1
                        obtain ⟨Z35_6_1_2_8, hY⟩ : ∃ V, ((Z35_6_1_2.setCell ⟨gc, 0, none⟩ (.int .i64 0)).setCell ⟨gc, 1, none⟩ (.int .i64 0)) = V := ⟨_, rfl⟩
                        have qS : Out gc (gc + 1) Z35_6_1_2 Z35_6_1_2_8 := by rw [← hY]; exact ((Out.refl _ _ _).setCell (p := ⟨gc, 0, none⟩) (.inl ⟨Nat.le_refl _, Nat.lt_succ_self _⟩) _).setCell (p := ⟨gc, 1, none⟩) (.inl ⟨Nat.le_refl _, Nat.lt_succ_self _⟩) _
                        replace f_gc : Bl Z35_6_1_2_8 gc #[.int .i64 0, .int .i64 0] 38 := by rw [← hY]; exact ((f_gc.set 0 (.int .i64 0)).set 1 (.int .i64 0))
                        (try rw [hY])
                        clear hY
                        replace oo := oo.past qS (by omega)
                        refine hK.out _ _ ?hS277 (fun hHeld2 => ?rest277)
                        case hS277 => exact ⟨qS.cell hHeld.1 (by omega), qS.cell hHeld.2 (by omega)⟩
                        clear qS
                        clear hK KK
                        (try clear hHeld)
                        have hHeld := hHeld2
                        clear hHeld2
                        (try simp only [Act.put, xa, xb, xc, xd, xe, xf])
                        refine wpAnyH_done (by kernel_rfl) ?_ _
                        exact HC gc _ ⟨f_gc, oo⟩
                      · exact AllReadyH.nil
                    · exact AllReadyH.nil
                  · exact AllReadyH.nil
                · exact AllReadyH.nil
            case h2 =>
              rintro gc X3 ⟨kF3, oV3⟩
              refine hK3 _ _ ?_
              have HOR3 := hid_mk (HOR3s.out.trans oV3)
              have HF3 := hid_mk kF3
              have HF1 := hid_mk (HF1.out.kept oV3 (.inr (Nat.zero_le _)))
              have HF2 := hid_mk (HF2.out.kept oV3 (.inr (Nat.zero_le _)))
              clear kF3 oV3 g0 g1 hAl hK3
              have z0 := HF1.out.cell (i := 0) rfl
              have z1 := HF1.out.cell (i := 1) rfl
              go_wp2_with (go_at_call 9; refine (good_ok _).mono ?_; rintro e w4 ⟨rfl, o4⟩; have HOR3 := hid_mk (HOR3.out.trans o4); have HF1 := hid_mk (HF1.out.kept o4 (.inr (Nat.zero_le _))); have HF2 := hid_mk (HF2.out.kept o4 (.inr (Nat.zero_le _))); have HF3 := hid_mk (HF3.out.kept o4 (.inr (Nat.zero_le _))); have y0 := HF2.out.cell (i := 0) rfl; have y1 := HF2.out.cell (i := 1) rfl; have v0 := HF3.out.cell (i := 0) rfl; have v1 := HF3.out.cell (i := 1) rfl; clear o4)
              go_ret
              exact ⟨rfl, HWR.out.trans HOR3.out⟩
end Go.Proofs.YtmfnkhonghemeaaDoor
