/- PagesLowest -/
import Derived.Test.YtfkmaanfgkkjcaaDoorJb
namespace Go.Proofs.YtfkmaanfgkkjcaaDoor
open Go.RowKit
set_option linter.unusedVariables false
set_option linter.unusedSimpArgs false

set_option maxRecDepth 100000 in
set_option maxHeartbeats 16000000 in
theorem lowest_odd {w : World} (hT : Tab w) (n0 c long : Int) (hn : -9223372036854775808 ≤ n0 ∧ n0 ≤ 9223372036854775807) (hc : -9223372036854775808 ≤ c ∧ c ≤ 9223372036854775807) (hl : -9223372036854775808 ≤ long ∧ long ≤ 9223372036854775807) (hodd : long.tmod 2 ≠ 0) {a : Option Addr} {len cap : Nat} (hA : 0 < len → ∃ b off q, a = some ⟨b, off, none⟩ ∧ Script w b off len q) :
    Calls Tryd.prog 7 #[.int .i64 n0, .slice a len cap, .int .i64 c, .int .i64 long] w fun e w' => e = .returned (.bool true) ∧ Below w.heap.size w w' := by
  obtain ⟨m, hm, hm2⟩ := wth_nat n0 60 (by decide)
  have HW1 := hid_mk (within_any n0 60 w hn.1 hn.2 (by decide) (by decide))
  rw [hm] at HW1
  obtain ⟨j, hj, hj2⟩ := wth_nat long 16 (by decide)
  have HW2 : Hid (∀ w', Calls Tryd.prog 14 #[.int .i64 long, .int .i64 16] w' fun e w'' => e = .returned (.int .i64 (j : Int)) ∧ w'' = w') := fun w' => by
    have := within_any long 16 w' hl.1 hl.2 (by decide) (by decide)
    rw [hj] at this
    exact this
  obtain ⟨N, hN⟩ : ∃ N : Nat, 1 + m = N := ⟨_, rfl⟩
  obtain ⟨K, hK⟩ : ∃ K : Nat, 1 + j = K := ⟨_, rfl⟩
  have eN : (1 : Int) + (m : Int) = (N : Int) := by omega
  have eK : (1 : Int) + (j : Int) = (K : Int) := by omega
  have HNK : Hid (1 ≤ N ∧ N ≤ 60 ∧ 1 ≤ K ∧ K ≤ 16) := by show _ ∧ _ ∧ _ ∧ _; omega
  have HBu := hid_mk (busy_any hT N HNK.out.1 HNK.out.2.1 (cap := cap) hA)
  have HT := hid_mk hT
  have ho1 : (long.tmod 2 != 0) = true := by simp [hodd]
  have ho2 : (long.tmod 2 == 0) = false := by simp [hodd]
  clear hT hA hn hc hl hodd hm hj hN hK
  go_enter Tryd.func7, Tryd.ntmps7
  go_wp2_with (go_at_call 14; refine calls_same HW1.out ?_)
  refine HBu.out.mono ?_
  rintro e w1 ⟨b, bw, S, rfl, ht, l1, l2, ho⟩
  have HTt := hid_mk ht
  have HO1 := hid_mk ho
  have HLo : Hid (w.heap.size ≤ b ∧ w.heap.size ≤ bw) := ⟨l1, l2⟩
  have HAl := hid_mk (alive_any (HT.out.quiet ho))
  clear ht ho l1 l2 HBu HW1 eN
  have n6 : (N : Int) ≤ 60 := by have := HNK.out; omega
  have n5 : (1 : Int) ≤ (N : Int) := by have := HNK.out; omega
  have k5 : (1 : Int) ≤ (K : Int) := by have := HNK.out; omega
  have k6 : (K : Int) ≤ 16 := by have := HNK.out; omega
  go_wp2_with (first | (go_at_call 10; refine HAl.out.mono ?_; rintro e w2 ⟨rfl, ho⟩; have HO2 := hid_mk (HO1.out.trans ho); have HT2 := hid_mk (HTt.out.quiet ho); clear ho) | (go_at_call 14; refine calls_same (HW2.out _) ?_))
  clear HAl HTt HO1
  clear eK
  go_loopw [11, 12] (fun x y wr => ∃ (p : Int) (q : Option Nat), x = .int .i64 (wantI q) ∧ y = .int .i64 p ∧ LowInv S N K p q ∧ Out 0 0 w2 wr) (fun _ y _ => (intOf y + 1).toNat)
  case atStart => exact ⟨(N : Int) - K, none, rfl, by go_num, LowInv.start S N K HNK.out.2.2.2, Out.refl _ _ _⟩
  case round =>
    obtain ⟨p, q, rfl, rfl, hv, ho⟩ := hrel
    have HV := hid_mk hv
    have HO := hid_mk ho
    have p1 : p + (K : Int) ≤ (N : Int) := hv.1
    have p2 : -16 ≤ p := hv.2.1
    by_cases hp : 0 ≤ p
    · obtain ⟨p', rfl⟩ := Int.eq_ofNat_of_zero_le hp
      clear hv ho
      go_wp2_with fail
      go_loopw [13, 14] (fun x y wr => ∃ i : Nat, i ≤ K ∧ x = .bool (allF S p' i) ∧ y = .int .i64 i ∧ Out 0 0 w2 wr) (fun _ y _ => K - (intOf y).toNat)
      case atStart => exact ⟨0, Nat.zero_le _, rfl, rfl, HO.out⟩
      case round =>
        clear HO
        obtain ⟨i, i1, rfl, rfl, ho⟩ := hrel
        have HO := hid_mk ho
        have b0 : (0 : Int) ≤ (i : Int) := by omega
        by_cases hi : i < K
        · have b1 : (i : Int) < (K : Int) := by omega
          have HF : Hid (∀ w', Out 0 0 w2 w' → Calls Tryd.prog 16 #[.pointer (some ⟨b, 0, none⟩), .int .i64 ((p' : Int) + (i : Int))] w' fun e w'' => e = .returned (.bool (freeB (S (p' + i)))) ∧ Out 0 0 w' w'') := fun w' o => by
            have := lfree_any (HT2.out.quiet o) (p' + i) (by omega)
            rw [show ((p' + i : Nat) : Int) = (p' : Int) + (i : Int) from by omega] at this
            exact this
          have HA := hid_mk (allF_succ S p' i)
          generalize allF S p' i = u at *
          generalize freeB (S (p' + i)) = f at *
          clear ho
          cases u with
          | false =>
            go_wp2
            go_roundw
            case rel => exact ⟨i + 1, by omega, by rw [HA.out]; rfl, by go_num, HO.out⟩
            case measure => simp [intOf]; omega
          | true =>
            go_wp2_with (go_at_call 16; refine (HF.out _ HO.out).mono ?_; rintro e w4 ⟨rfl, hO4⟩; have HO4 := hid_mk (HO.out.trans hO4); clear hO4)
            go_roundw
            case rel => exact ⟨i + 1, by omega, by rw [HA.out, Bool.true_and], by go_num, HO4.out⟩
            case measure => simp [intOf]; omega
        · have : i = K := by omega
          subst this
          clear ho
          cases ha : allF S p' i with
          | false =>
            have HV2 := hid_mk (HV.out.no ha)
            clear ha
            go_wp2
            go_roundw
            case rel => exact ⟨(p' : Int) - 1, q, rfl, by go_num, HV2.out, HO.out⟩
            case measure => simp [intOf]
          | true =>
            have HV2 := hid_mk (HV.out.yes ha)
            clear ha
            go_wp2
            go_roundw
            case rel => exact ⟨(p' : Int) - 1, some p', rfl, by go_num, HV2.out, HO.out⟩
            case measure => simp [intOf]
    · have p0 : p < 0 := by omega
      have hq := hv.done p0 (by omega)
      have HTn := hid_mk (HT2.out.quiet ho)
      have HOn := hid_mk (HO2.out.trans ho)
      have HAa := hid_mk (all_any HTn.out)
      clear hv ho hp HV HO HT2 HO2
      have HNb : Hid (bw < wr.heap.size) := HTn.out.nums.2.2.2.2.2.2
      go_wp2_with fail
      refine HAa.out.mono ?_
      rintro e wA ⟨g, cg, rfl, hl, ho⟩
      have HLA := hid_mk hl.slice
      have HGA : Hid (wr.heap.size ≤ g) := hl.row.2.1
      have HTA := hid_mk (HTn.out.quiet ho)
      have HOA := hid_mk (HOn.out.trans ho)
      have HFr := hid_mk (free_any HTA.out (HT.out.quiet HOA.out))
      obtain ⟨F, hF⟩ : ∃ F, cntF S N = F := ⟨_, rfl⟩
      rw [hF] at HFr
      clear hl ho HAa HTn HOn
      go_wp2_with fail
      refine HFr.out.mono ?_
      rintro e wB ⟨rfl, ho⟩
      have HLB := hid_mk (HLA.out.kept ho)
      have HTB := hid_mk (HTA.out.quiet ho)
      have HOB := hid_mk (HOA.out.trans ho)
      have f6 : (F : Int) ≤ 60 := by have := cntF_le S N; omega
      clear ho HFr HLA HTA HOA
      cases q with
      | none =>
        have HC : Hid (Calls Tryd.prog 19 #[.pointer (some ⟨b, 0, none⟩), .int .i64 K] wB fun e w' => e = .returned (.tuple #[.int .i64 0, .int .i64 20]) ∧ TblAt 70 w' b bw N S ∧ Out bw (bw + 1) wB w') := by
          have := takeRun_any HTB.out (HT.out.quiet HOB.out) (K : Int)
          obtain ⟨x1, x2, x3⟩ := tr_none (S := S) HNK.out.2.2.1 HNK.out.2.2.2 hq
          rw [x1, x2, x3] at this
          exact this
        clear hq hF
        rw [show wantI none = -1 from rfl]
        go_wp2_with (go_at_call 19; refine HC.out.mono ?_; rintro e wC ⟨rfl, hC, hO⟩)
        have HTC := hid_mk hC
        have HLC := hid_mk (HLB.out.beside hO (by have := HNb.out; have := HGA.out; omega))
        have HOC : Hid (Out 0 0 w wC) := HOB.out.past hO HLo.out.2
        have HAC := hid_mk (all_any HTC.out)
        clear hC hO HLB HTB HOB HC
        go_wp2_with (first | (go_at_call 17; refine HAC.out.mono ?_; rintro e wD ⟨g2, cg2, rfl, hl, ho⟩; have HSD := hid_mk (same_any hl.slice (HLC.out.kept ho) (by rw [pgl_len]; omega)); have HOD := hid_mk (HOC.out.trans ho); clear hl ho) | (go_at_call 21; refine HSD.out.mono ?_; rintro e wE ⟨rfl, ho⟩; have HOE := hid_mk (HOD.out.trans ho); clear ho))
        go_ret
        exact ⟨rfl, HOE.out.all⟩
      | some r =>
        obtain ⟨r1, r2, r3⟩ := rowF_pages HTB.out.good hq
        have HC : Hid (Calls Tryd.prog 19 #[.pointer (some ⟨b, 0, none⟩), .int .i64 K] wB fun e w' => e = .returned (.tuple #[.int .i64 r, .int .i64 0]) ∧ TblAt 70 w' b bw N (setR S r K) ∧ Out bw (bw + 1) wB w') := by
          have := takeRun_any HTB.out (HT.out.quiet HOB.out) (K : Int)
          obtain ⟨x1, x2, x3⟩ := tr_some (S := S) HNK.out.2.2.1 HNK.out.2.2.2 hq
          rw [x1, x2, x3] at this
          exact this
        have hcn := cnt_row HNK.out.2.2.1 r2 r3
        obtain ⟨F2, hF2⟩ : ∃ F2, cntF (setR S r K) N = F2 := ⟨_, rfl⟩
        have e2 : (F : Int) - (K : Int) = (F2 : Int) := by omega
        have HR : Hid (r + K ≤ N ∧ r < N) := by show _ ∧ _; omega
        have r4 : (0 : Int) ≤ (r : Int) := by omega
        have r5 : (r : Int) < (N : Int) := by omega
        have r6 : (r : Int) + (K : Int) ≤ (N : Int) := by have := HR.out; omega
        clear hq hF r1 r2 r3
        rw [show wantI (some r) = (r : Int) from rfl]
        go_wp2_with (go_at_call 19; refine HC.out.mono ?_; rintro e wC ⟨rfl, hC, hO⟩)
        have HTC := hid_mk hC
        have HLC := hid_mk (HLB.out.beside hO (by have := HNb.out; have := HGA.out; omega))
        have HOC : Hid (Out 0 0 w wC) := HOB.out.past hO HLo.out.2
        have HFC := hid_mk (free_any HTC.out (HT.out.quiet HOC.out))
        rw [hF2] at HFC
        have e3 : ((F2 : Int) != (F2 : Int)) = false := by simp
        have e4 : ((r : Int) != (r : Int)) = false := by simp
        have e5 : ((N : Int) != (N : Int)) = false := by simp
        clear hC hO HLB HTB HOB HC hF2 hcn
        go_wp2_with (go_at_call 18; refine HFC.out.mono ?_; rintro e wD ⟨rfl, ho⟩; have HOD := hid_mk (HOC.out.trans ho); have HTD := hid_mk (HTC.out.quiet ho); have HLD := hid_mk (HLC.out.kept ho); clear ho)
        go_loopw [23] (fun y wr => ∃ i : Nat, i ≤ N ∧ y = .int .i64 i ∧ Out 0 0 wD wr) (fun y _ => N - (intOf y).toNat)
        case atStart => exact ⟨0, Nat.zero_le _, rfl, Out.refl _ _ _⟩
        case round =>
          obtain ⟨i, i1, rfl, ho⟩ := hrel
          have HO := hid_mk ho
          have b0 : (0 : Int) ≤ (i : Int) := by omega
          by_cases hi : i < N
          · have b1 : (i : Int) < (N : Int) := by omega
            have ei1 : inB N (i : Int) = true := by unfold inB; simp; omega
            have ei2 : stP (setR S r K) N (i : Int) = (setR S r K) i := by unfold stP; rw [ei1]; rfl
            obtain ⟨x, y, t, hp⟩ := page_of ((setR S r K) i)
            have HS : Hid (Calls Tryd.prog 22 #[.pointer (some ⟨b, 0, none⟩), .int .i64 i] wr fun e w' => e = .returned (.tuple #[.agg #[.int .i64 x, .int .i64 y, .int .i64 t], .bool true]) ∧ Out 0 0 wr w') := by
              have := state_any (HTD.out.quiet ho) (i : Int)
              rw [ei1, ei2, hp] at this
              exact this
            have HWs := hid_mk (HLD.out.kept ho)
            clear ei1 ei2 ho
            by_cases hin : r ≤ i ∧ i < r + K
            · obtain ⟨j1, j2⟩ := hin
              have b2 : (r : Int) ≤ (i : Int) := by omega
              have b3 : (i : Int) < (r : Int) + (K : Int) := by omega
              clear HWs
              by_cases hir : i = r
              · subst hir
                have hpe : setR S i K i = (2, 0, (K : Int)) := by unfold setR; rw [if_pos rfl]
                rw [hpe] at hp
                cases hp
                have z1 : ((i : Int) == (i : Int)) = true := by simp
                have z2 : ((K : Int) == (K : Int)) = true := by simp
                clear hpe
                go_wp2_with (go_at_call 22; refine HS.out.mono ?_; rintro e wE ⟨rfl, hE⟩; have HOE := hid_mk hE; clear hE)
                obtain ⟨u0, u1, u2⟩ := box3 (heap_alloc_new wE (.cells #[.int .i64 2, .int .i64 0, .int .i64 (K : Int)] 45))
                have HOF := hid_mk ((HO.out.trans HOE.out).alloc (.cells #[.int .i64 2, .int .i64 0, .int .i64 (K : Int)] 45))
                obtain ⟨Y, hY⟩ : ∃ Y, wE.heap.size = Y := ⟨_, rfl⟩
                obtain ⟨WF, hWF⟩ : ∃ WF, wE.alloc (.cells #[.int .i64 2, .int .i64 0, .int .i64 (K : Int)] 45) = WF := ⟨_, rfl⟩
                rw [hWF] at u0 u1 u2 HOF ⊢
                rw [hY] at u0 u1 u2 ⊢
                clear hWF hY HS HOE
                refine wp_region_held_drew (S := fun w' => w'.cell? ⟨Y, 0, none⟩ = some (.int .i64 2) ∧ w'.cell? ⟨Y, 1, none⟩ = some (.int .i64 0) ∧ w'.cell? ⟨Y, 2, none⟩ = some (.int .i64 (K : Int))) (by kernel_rfl) ?hS1 (fun hHeld => ?rest1)
                case hS1 => exact ⟨u0, u1, u2⟩
                refine wpAnyH_take (i := 0) (v := ?v2) rfl (by kernel_rfl) (by kernel_rfl) (by kernel_rfl) (fun _ _ _ h => h) (Or.inl ⟨by rfl, ?hy2⟩) (by assumption) ?rest2
                case hy2 => (intro w hSw; (try dsimp only at hSw); simp only [List.getElem_toArray, List.getElem_cons_zero, List.getElem_cons_succ]; go_simp; (try with_reducible rfl))
                (try simp only [Act.put, List.getElem_toArray, List.getElem_cons_zero, List.getElem_cons_succ, List.setIfInBounds_toArray, List.set_cons_zero, List.set_cons_succ])
                refine wpAnyH_take (i := 1) (v := ?v3) rfl (by kernel_rfl) (by kernel_rfl) (by kernel_rfl) (fun _ _ _ h => h) (Or.inl ⟨by rfl, ?hy3⟩) (by assumption) ?rest3
                case hy3 => (intro w hSw; (try dsimp only at hSw); simp only [List.getElem_toArray, List.getElem_cons_zero, List.getElem_cons_succ]; go_simp; (try with_reducible rfl))
                (try simp only [Act.put, List.getElem_toArray, List.getElem_cons_zero, List.getElem_cons_succ, List.setIfInBounds_toArray, List.set_cons_zero, List.set_cons_succ])
                refine wpAnyH_take (i := 2) (v := ?v4) rfl (by kernel_rfl) (by kernel_rfl) (by kernel_rfl) (fun _ _ _ h => h) (Or.inl ⟨by rfl, ?hy4⟩) (by assumption) ?rest4
                case hy4 => (intro w hSw; (try dsimp only at hSw); simp only [List.getElem_toArray, List.getElem_cons_zero, List.getElem_cons_succ]; go_simp; (try with_reducible rfl))
                (try simp only [Act.put, List.getElem_toArray, List.getElem_cons_zero, List.getElem_cons_succ, List.setIfInBounds_toArray, List.set_cons_zero, List.set_cons_succ])
                refine wpAnyH_take (i := 3) (v := ?v5) rfl (by kernel_rfl) (by kernel_rfl) (by kernel_rfl) (fun _ _ _ h => h) (Or.inl ⟨by rfl, ?hy5⟩) (by assumption) ?rest5
                case hy5 => (intro w hSw; (try dsimp only at hSw); simp only [List.getElem_toArray, List.getElem_cons_zero, List.getElem_cons_succ]; go_simp; (try with_reducible rfl))
                (try simp only [Act.put, List.getElem_toArray, List.getElem_cons_zero, List.getElem_cons_succ, List.setIfInBounds_toArray, List.set_cons_zero, List.set_cons_succ])
                refine wpAnyH_take (i := 4) (v := undef) rfl (by kernel_rfl) (by kernel_rfl) (by kernel_rfl) (fun _ _ _ h => h) (Or.inr ⟨by rfl, rfl⟩) (by assumption) ?rest6
                (try simp only [Act.put, List.getElem_toArray, List.getElem_cons_zero, List.getElem_cons_succ, List.setIfInBounds_toArray, List.set_cons_zero, List.set_cons_succ])
                refine wpAnyH_take (i := 5) (v := undef) rfl (by kernel_rfl) (by kernel_rfl) (by kernel_rfl) (fun _ _ _ h => h) (Or.inr ⟨by rfl, rfl⟩) (by assumption) ?rest7
                (try simp only [Act.put, List.getElem_toArray, List.getElem_cons_zero, List.getElem_cons_succ, List.setIfInBounds_toArray, List.set_cons_zero, List.set_cons_succ])
                refine wpAnyH_take (i := 6) (v := undef) rfl (by kernel_rfl) (by kernel_rfl) (by kernel_rfl) (fun _ _ _ h => h) (Or.inr ⟨by rfl, rfl⟩) (by assumption) ?rest8
                (try simp only [Act.put, List.getElem_toArray, List.getElem_cons_zero, List.getElem_cons_succ, List.setIfInBounds_toArray, List.set_cons_zero, List.set_cons_succ])
                refine wpAnyH_take (i := 7) (v := ?v9) rfl (by kernel_rfl) (by kernel_rfl) (by kernel_rfl) (fun _ _ _ h => h) (Or.inl ⟨by rfl, ?hy9⟩) (by assumption) ?rest9
                case hy9 => (intro w hSw; (try dsimp only at hSw); simp only [List.getElem_toArray, List.getElem_cons_zero, List.getElem_cons_succ]; go_simp; (try with_reducible rfl))
                (try simp only [Act.put, List.getElem_toArray, List.getElem_cons_zero, List.getElem_cons_succ, List.setIfInBounds_toArray, List.set_cons_zero, List.set_cons_succ])
                refine wpAnyH_take (i := 8) (v := ?v10) rfl (by kernel_rfl) (by kernel_rfl) (by kernel_rfl) (fun _ _ _ h => h) (Or.inl ⟨by rfl, ?hy10⟩) (by assumption) ?rest10
                case hy10 => (intro w hSw; (try dsimp only at hSw); simp only [List.getElem_toArray, List.getElem_cons_zero, List.getElem_cons_succ]; go_simp; (try with_reducible rfl))
                (try simp only [Act.put, List.getElem_toArray, List.getElem_cons_zero, List.getElem_cons_succ, List.setIfInBounds_toArray, List.set_cons_zero, List.set_cons_succ])
                refine wpAnyH_take (i := 9) (v := undef) rfl (by kernel_rfl) (by kernel_rfl) (by kernel_rfl) (fun _ _ _ h => h) (Or.inr ⟨by rfl, rfl⟩) (by assumption) ?rest11
                (try simp only [Act.put, List.getElem_toArray, List.getElem_cons_zero, List.getElem_cons_succ, List.setIfInBounds_toArray, List.set_cons_zero, List.set_cons_succ])
                refine wpAnyH_take (i := 10) (v := undef) rfl (by kernel_rfl) (by kernel_rfl) (by kernel_rfl) (fun _ _ _ h => h) (Or.inr ⟨by rfl, rfl⟩) (by assumption) ?rest12
                (try simp only [Act.put, List.getElem_toArray, List.getElem_cons_zero, List.getElem_cons_succ, List.setIfInBounds_toArray, List.set_cons_zero, List.set_cons_succ])
                refine wpAnyH_take (i := 11) (v := undef) rfl (by kernel_rfl) (by kernel_rfl) (by kernel_rfl) (fun _ _ _ h => h) (Or.inr ⟨by rfl, rfl⟩) (by assumption) ?rest13
                (try simp only [Act.put, List.getElem_toArray, List.getElem_cons_zero, List.getElem_cons_succ, List.setIfInBounds_toArray, List.set_cons_zero, List.set_cons_succ])
                refine wpAnyH_take (i := 12) (v := undef) rfl (by kernel_rfl) (by kernel_rfl) (by kernel_rfl) (fun _ _ _ h => h) (Or.inr ⟨by rfl, rfl⟩) (by assumption) ?rest14
                (try simp only [Act.put, List.getElem_toArray, List.getElem_cons_zero, List.getElem_cons_succ, List.setIfInBounds_toArray, List.set_cons_zero, List.set_cons_succ])
                refine wpAnyH_take (i := 13) (v := undef) rfl (by kernel_rfl) (by kernel_rfl) (by kernel_rfl) (fun _ _ _ h => h) (Or.inr ⟨by rfl, rfl⟩) (by assumption) ?rest15
                (try simp only [Act.put, List.getElem_toArray, List.getElem_cons_zero, List.getElem_cons_succ, List.setIfInBounds_toArray, List.set_cons_zero, List.set_cons_succ])
                refine wpAnyH_take (i := 14) (v := ?v16) rfl (by kernel_rfl) (by kernel_rfl) (by kernel_rfl) (fun _ _ _ h => h) (Or.inl ⟨by rfl, ?hy16⟩) (by assumption) ?rest16
                case hy16 => (intro w hSw; (try dsimp only at hSw); simp only [List.getElem_toArray, List.getElem_cons_zero, List.getElem_cons_succ]; go_simp; (try with_reducible rfl))
                (try simp only [Act.put, List.getElem_toArray, List.getElem_cons_zero, List.getElem_cons_succ, List.setIfInBounds_toArray, List.set_cons_zero, List.set_cons_succ])
                refine wpAnyH_take (i := 15) (v := ?v17) rfl (by kernel_rfl) (by kernel_rfl) (by kernel_rfl) (fun _ _ _ h => h) (Or.inl ⟨by rfl, ?hy17⟩) (by assumption) ?rest17
                case hy17 => (intro w hSw; (try dsimp only at hSw); simp only [List.getElem_toArray, List.getElem_cons_zero, List.getElem_cons_succ]; go_simp; (try with_reducible rfl))
                (try simp only [Act.put, List.getElem_toArray, List.getElem_cons_zero, List.getElem_cons_succ, List.setIfInBounds_toArray, List.set_cons_zero, List.set_cons_succ])
                refine wpAnyH_take (i := 16) (v := undef) rfl (by kernel_rfl) (by kernel_rfl) (by kernel_rfl) (fun _ _ _ h => h) (Or.inr ⟨by rfl, rfl⟩) (by assumption) ?rest18
                (try simp only [Act.put, List.getElem_toArray, List.getElem_cons_zero, List.getElem_cons_succ, List.setIfInBounds_toArray, List.set_cons_zero, List.set_cons_succ])
                refine wpAnyH_take (i := 17) (v := undef) rfl (by kernel_rfl) (by kernel_rfl) (by kernel_rfl) (fun _ _ _ h => h) (Or.inr ⟨by rfl, rfl⟩) (by assumption) ?rest19
                (try simp only [Act.put, List.getElem_toArray, List.getElem_cons_zero, List.getElem_cons_succ, List.setIfInBounds_toArray, List.set_cons_zero, List.set_cons_succ])
                refine wpAnyH_take (i := 18) (v := undef) rfl (by kernel_rfl) (by kernel_rfl) (by kernel_rfl) (fun _ _ _ h => h) (Or.inr ⟨by rfl, rfl⟩) (by assumption) ?rest20
                (try simp only [Act.put, List.getElem_toArray, List.getElem_cons_zero, List.getElem_cons_succ, List.setIfInBounds_toArray, List.set_cons_zero, List.set_cons_succ])
                refine wpAnyH_take (i := 19) (v := ?v21) rfl (by kernel_rfl) (by kernel_rfl) (by kernel_rfl) (fun _ _ _ h => h) (Or.inl ⟨by rfl, ?hy21⟩) (by assumption) ?rest21
                case hy21 => (intro w hSw; (try dsimp only at hSw); simp only [List.getElem_toArray, List.getElem_cons_zero, List.getElem_cons_succ]; go_simp; (try with_reducible rfl))
                (try simp only [Act.put, List.getElem_toArray, List.getElem_cons_zero, List.getElem_cons_succ, List.setIfInBounds_toArray, List.set_cons_zero, List.set_cons_succ])
                refine wpAnyH_take (i := 20) (v := ?v22) rfl (by kernel_rfl) (by kernel_rfl) (by kernel_rfl) (fun _ _ _ h => h) (Or.inl ⟨by rfl, ?hy22⟩) (by assumption) ?rest22
                case hy22 => (intro w hSw; (try dsimp only at hSw); simp only [List.getElem_toArray, List.getElem_cons_zero, List.getElem_cons_succ]; go_simp; (try with_reducible rfl))
                (try simp only [Act.put, List.getElem_toArray, List.getElem_cons_zero, List.getElem_cons_succ, List.setIfInBounds_toArray, List.set_cons_zero, List.set_cons_succ])
                refine wpAnyH_take (i := 21) (v := ?v23) rfl (by kernel_rfl) (by kernel_rfl) (by kernel_rfl) (fun _ _ _ h => h) (Or.inl ⟨by rfl, ?hy23⟩) (by assumption) ?rest23
                case hy23 => (intro w hSw; (try dsimp only at hSw); simp only [List.getElem_toArray, List.getElem_cons_zero, List.getElem_cons_succ]; go_simp; (try with_reducible rfl))
                (try simp only [Act.put, List.getElem_toArray, List.getElem_cons_zero, List.getElem_cons_succ, List.setIfInBounds_toArray, List.set_cons_zero, List.set_cons_succ])
                refine wpAnyH_take (i := 22) (v := ?v24) rfl (by kernel_rfl) (by kernel_rfl) (by kernel_rfl) (fun _ _ _ h => h) (Or.inl ⟨by rfl, ?hy24⟩) (by assumption) ?rest24
                case hy24 => (intro w hSw; (try dsimp only at hSw); simp only [List.getElem_toArray, List.getElem_cons_zero, List.getElem_cons_succ]; go_simp; (try with_reducible rfl))
                (try simp only [Act.put, List.getElem_toArray, List.getElem_cons_zero, List.getElem_cons_succ, List.setIfInBounds_toArray, List.set_cons_zero, List.set_cons_succ])
                refine wpAnyH_take (i := 23) (v := ?v25) rfl (by kernel_rfl) (by kernel_rfl) (by kernel_rfl) (fun _ _ _ h => h) (Or.inl ⟨by rfl, ?hy25⟩) (by assumption) ?rest25
                case hy25 => (intro w hSw; (try dsimp only at hSw); simp only [List.getElem_toArray, List.getElem_cons_zero, List.getElem_cons_succ]; go_simp; (try with_reducible rfl))
                (try simp only [Act.put, List.getElem_toArray, List.getElem_cons_zero, List.getElem_cons_succ, List.setIfInBounds_toArray, List.set_cons_zero, List.set_cons_succ])
                refine wpAnyH_take (i := 24) (v := ?v26) rfl (by kernel_rfl) (by kernel_rfl) (by kernel_rfl) (fun _ _ _ h => h) (Or.inl ⟨by rfl, ?hy26⟩) (by assumption) ?rest26
                case hy26 => (intro w hSw; (try dsimp only at hSw); simp only [List.getElem_toArray, List.getElem_cons_zero, List.getElem_cons_succ]; go_simp; (try with_reducible rfl))
                (try simp only [Act.put, List.getElem_toArray, List.getElem_cons_zero, List.getElem_cons_succ, List.setIfInBounds_toArray, List.set_cons_zero, List.set_cons_succ])
                refine wpAnyH_take (i := 25) (v := ?v27) rfl (by kernel_rfl) (by kernel_rfl) (by kernel_rfl) (fun _ _ _ h => h) (Or.inl ⟨by rfl, ?hy27⟩) (by assumption) ?rest27
                case hy27 => (intro w hSw; (try dsimp only at hSw); simp only [List.getElem_toArray, List.getElem_cons_zero, List.getElem_cons_succ]; go_simp; (try with_reducible rfl))
                (try simp only [Act.put, List.getElem_toArray, List.getElem_cons_zero, List.getElem_cons_succ, List.setIfInBounds_toArray, List.set_cons_zero, List.set_cons_succ])
                refine wpAnyH_take (i := 26) (v := ?v28) rfl (by kernel_rfl) (by kernel_rfl) (by kernel_rfl) (fun _ _ _ h => h) (Or.inl ⟨by rfl, ?hy28⟩) (by assumption) ?rest28
                case hy28 => (intro w hSw; (try dsimp only at hSw); simp only [List.getElem_toArray, List.getElem_cons_zero, List.getElem_cons_succ]; go_simp; (try with_reducible rfl))
                (try simp only [Act.put, List.getElem_toArray, List.getElem_cons_zero, List.getElem_cons_succ, List.setIfInBounds_toArray, List.set_cons_zero, List.set_cons_succ])
                refine wpAnyH_take (i := 27) (v := ?v29) rfl (by kernel_rfl) (by kernel_rfl) (by kernel_rfl) (fun _ _ _ h => h) (Or.inl ⟨by rfl, ?hy29⟩) (by assumption) ?rest29
                case hy29 => (intro w hSw; (try dsimp only at hSw); simp only [List.getElem_toArray, List.getElem_cons_zero, List.getElem_cons_succ]; go_simp; (try with_reducible rfl))
                (try simp only [Act.put, List.getElem_toArray, List.getElem_cons_zero, List.getElem_cons_succ, List.setIfInBounds_toArray, List.set_cons_zero, List.set_cons_succ])
                refine wpAnyH_take (i := 28) (v := ?v30) rfl (by kernel_rfl) (by kernel_rfl) (by kernel_rfl) (fun _ _ _ h => h) (Or.inl ⟨by rfl, ?hy30⟩) (by assumption) ?rest30
                case hy30 => (intro w hSw; (try dsimp only at hSw); simp only [List.getElem_toArray, List.getElem_cons_zero, List.getElem_cons_succ]; go_simp; (try with_reducible rfl))
                (try simp only [Act.put, List.getElem_toArray, List.getElem_cons_zero, List.getElem_cons_succ, List.setIfInBounds_toArray, List.set_cons_zero, List.set_cons_succ])
                refine wpAnyH_take (i := 29) (v := ?v31) rfl (by kernel_rfl) (by kernel_rfl) (by kernel_rfl) (fun _ _ _ h => h) (Or.inl ⟨by rfl, ?hy31⟩) (by assumption) ?rest31
                case hy31 => (intro w hSw; (try dsimp only at hSw); simp only [List.getElem_toArray, List.getElem_cons_zero, List.getElem_cons_succ]; go_simp; (try with_reducible rfl))
                (try simp only [Act.put, List.getElem_toArray, List.getElem_cons_zero, List.getElem_cons_succ, List.setIfInBounds_toArray, List.set_cons_zero, List.set_cons_succ])
                refine wpAnyH_take (i := 30) (v := ?v32) rfl (by kernel_rfl) (by kernel_rfl) (by kernel_rfl) (fun _ _ _ h => h) (Or.inl ⟨by rfl, ?hy32⟩) (by assumption) ?rest32
                case hy32 => (intro w hSw; (try dsimp only at hSw); simp only [List.getElem_toArray, List.getElem_cons_zero, List.getElem_cons_succ]; go_simp; (try with_reducible rfl))
                (try simp only [Act.put, List.getElem_toArray, List.getElem_cons_zero, List.getElem_cons_succ, List.setIfInBounds_toArray, List.set_cons_zero, List.set_cons_succ])
                refine wpAnyH_take (i := 31) (v := ?v33) rfl (by kernel_rfl) (by kernel_rfl) (by kernel_rfl) (fun _ _ _ h => h) (Or.inl ⟨by rfl, ?hy33⟩) (by assumption) ?rest33
                case hy33 => (intro w hSw; (try dsimp only at hSw); simp only [List.getElem_toArray, List.getElem_cons_zero, List.getElem_cons_succ]; go_simp; (try with_reducible rfl))
                (try simp only [Act.put, List.getElem_toArray, List.getElem_cons_zero, List.getElem_cons_succ, List.setIfInBounds_toArray, List.set_cons_zero, List.set_cons_succ])
                refine wpAnyH_take (i := 32) (v := ?v34) rfl (by kernel_rfl) (by kernel_rfl) (by kernel_rfl) (fun _ _ _ h => h) (Or.inl ⟨by rfl, ?hy34⟩) (by assumption) ?rest34
                case hy34 => (intro w hSw; (try dsimp only at hSw); simp only [List.getElem_toArray, List.getElem_cons_zero, List.getElem_cons_succ]; go_simp; (try with_reducible rfl))
                (try simp only [Act.put, List.getElem_toArray, List.getElem_cons_zero, List.getElem_cons_succ, List.setIfInBounds_toArray, List.set_cons_zero, List.set_cons_succ])
                refine wpAnyH_take (i := 33) (v := ?v35) rfl (by kernel_rfl) (by kernel_rfl) (by kernel_rfl) (fun _ _ _ h => h) (Or.inl ⟨by rfl, ?hy35⟩) (by assumption) ?rest35
                case hy35 => (intro w hSw; (try dsimp only at hSw); simp only [List.getElem_toArray, List.getElem_cons_zero, List.getElem_cons_succ]; go_simp; (try with_reducible rfl))
                (try simp only [Act.put, List.getElem_toArray, List.getElem_cons_zero, List.getElem_cons_succ, List.setIfInBounds_toArray, List.set_cons_zero, List.set_cons_succ])
                refine wpAnyH_take (i := 34) (v := ?v36) rfl (by kernel_rfl) (by kernel_rfl) (by kernel_rfl) (fun _ _ _ h => h) (Or.inl ⟨by rfl, ?hy36⟩) (by assumption) ?rest36
                case hy36 => (intro w hSw; (try dsimp only at hSw); simp only [List.getElem_toArray, List.getElem_cons_zero, List.getElem_cons_succ]; go_simp; (try with_reducible rfl))
                (try simp only [Act.put, List.getElem_toArray, List.getElem_cons_zero, List.getElem_cons_succ, List.setIfInBounds_toArray, List.set_cons_zero, List.set_cons_succ])
                refine wpAnyH_take (i := 35) (v := ?v37) rfl (by kernel_rfl) (by kernel_rfl) (by kernel_rfl) (fun _ _ _ h => h) (Or.inl ⟨by rfl, ?hy37⟩) (by assumption) ?rest37
                case hy37 => (intro w hSw; (try dsimp only at hSw); simp only [List.getElem_toArray, List.getElem_cons_zero, List.getElem_cons_succ]; go_simp; (try with_reducible rfl))
                (try simp only [Act.put, List.getElem_toArray, List.getElem_cons_zero, List.getElem_cons_succ, List.setIfInBounds_toArray, List.set_cons_zero, List.set_cons_succ])
                refine wpAnyH_take (i := 36) (v := ?v38) rfl (by kernel_rfl) (by kernel_rfl) (by kernel_rfl) (fun _ _ _ h => h) (Or.inl ⟨by rfl, ?hy38⟩) (by assumption) ?rest38
                case hy38 => (intro w hSw; (try dsimp only at hSw); simp only [List.getElem_toArray, List.getElem_cons_zero, List.getElem_cons_succ]; go_simp; (try with_reducible rfl))
                (try simp only [Act.put, List.getElem_toArray, List.getElem_cons_zero, List.getElem_cons_succ, List.setIfInBounds_toArray, List.set_cons_zero, List.set_cons_succ])
                refine wpAnyH_take (i := 37) (v := ?v39) rfl (by kernel_rfl) (by kernel_rfl) (by kernel_rfl) (fun _ _ _ h => h) (Or.inl ⟨by rfl, ?hy39⟩) (by assumption) ?rest39
                case hy39 => (intro w hSw; (try dsimp only at hSw); simp only [List.getElem_toArray, List.getElem_cons_zero, List.getElem_cons_succ]; go_simp; (try with_reducible rfl))
                (try simp only [Act.put, List.getElem_toArray, List.getElem_cons_zero, List.getElem_cons_succ, List.setIfInBounds_toArray, List.set_cons_zero, List.set_cons_succ])
                refine wpAnyH_take (i := 38) (v := ?v40) rfl (by kernel_rfl) (by kernel_rfl) (by kernel_rfl) (fun _ _ _ h => h) (Or.inl ⟨by rfl, ?hy40⟩) (by assumption) ?rest40
                case hy40 => (intro w hSw; (try dsimp only at hSw); simp only [List.getElem_toArray, List.getElem_cons_zero, List.getElem_cons_succ]; go_simp; (try with_reducible rfl))
                (try simp only [Act.put, List.getElem_toArray, List.getElem_cons_zero, List.getElem_cons_succ, List.setIfInBounds_toArray, List.set_cons_zero, List.set_cons_succ])
                refine wpAnyH_take (i := 39) (v := ?v41) rfl (by kernel_rfl) (by kernel_rfl) (by kernel_rfl) (fun _ _ _ h => h) (Or.inl ⟨by rfl, ?hy41⟩) (by assumption) ?rest41
                case hy41 => (intro w hSw; (try dsimp only at hSw); simp only [List.getElem_toArray, List.getElem_cons_zero, List.getElem_cons_succ]; go_simp; (try with_reducible rfl))
                (try simp only [Act.put, List.getElem_toArray, List.getElem_cons_zero, List.getElem_cons_succ, List.setIfInBounds_toArray, List.set_cons_zero, List.set_cons_succ])
                refine wpAnyH_take (i := 40) (v := ?v42) rfl (by kernel_rfl) (by kernel_rfl) (by kernel_rfl) (fun _ _ _ h => h) (Or.inl ⟨by rfl, ?hy42⟩) (by assumption) ?rest42
                case hy42 => (intro w hSw; (try dsimp only at hSw); simp only [List.getElem_toArray, List.getElem_cons_zero, List.getElem_cons_succ]; go_simp; (try with_reducible rfl))
                (try simp only [Act.put, List.getElem_toArray, List.getElem_cons_zero, List.getElem_cons_succ, List.setIfInBounds_toArray, List.set_cons_zero, List.set_cons_succ])
                refine wpAnyH_take (i := 41) (v := ?v43) rfl (by kernel_rfl) (by kernel_rfl) (by kernel_rfl) (fun _ _ _ h => h) (Or.inl ⟨by rfl, ?hy43⟩) (by assumption) ?rest43
                case hy43 => (intro w hSw; (try dsimp only at hSw); simp only [List.getElem_toArray, List.getElem_cons_zero, List.getElem_cons_succ]; go_simp; (try with_reducible rfl))
                (try simp only [Act.put, List.getElem_toArray, List.getElem_cons_zero, List.getElem_cons_succ, List.setIfInBounds_toArray, List.set_cons_zero, List.set_cons_succ])
                refine wpAnyH_take (i := 42) (v := ?v44) rfl (by kernel_rfl) (by kernel_rfl) (by kernel_rfl) (fun _ _ _ h => h) (Or.inl ⟨by rfl, ?hy44⟩) (by assumption) ?rest44
                case hy44 => (intro w hSw; (try dsimp only at hSw); simp only [List.getElem_toArray, List.getElem_cons_zero, List.getElem_cons_succ]; go_simp; (try with_reducible rfl))
                (try simp only [Act.put, List.getElem_toArray, List.getElem_cons_zero, List.getElem_cons_succ, List.setIfInBounds_toArray, List.set_cons_zero, List.set_cons_succ])
                refine wpAnyH_take (i := 43) (v := ?v45) rfl (by kernel_rfl) (by kernel_rfl) (by kernel_rfl) (fun _ _ _ h => h) (Or.inl ⟨by rfl, ?hy45⟩) (by assumption) ?rest45
                case hy45 => (intro w hSw; (try dsimp only at hSw); simp only [List.getElem_toArray, List.getElem_cons_zero, List.getElem_cons_succ]; go_simp; (try with_reducible rfl))
                (try simp only [Act.put, List.getElem_toArray, List.getElem_cons_zero, List.getElem_cons_succ, List.setIfInBounds_toArray, List.set_cons_zero, List.set_cons_succ])
                refine wpAnyH_take (i := 44) (v := ?v46) rfl (by kernel_rfl) (by kernel_rfl) (by kernel_rfl) (fun _ _ _ h => h) (Or.inl ⟨by rfl, ?hy46⟩) (by assumption) ?rest46
                case hy46 => (intro w hSw; (try dsimp only at hSw); simp only [List.getElem_toArray, List.getElem_cons_zero, List.getElem_cons_succ]; go_simp; (try with_reducible rfl))
                (try simp only [Act.put, List.getElem_toArray, List.getElem_cons_zero, List.getElem_cons_succ, List.setIfInBounds_toArray, List.set_cons_zero, List.set_cons_succ])
                refine wpAnyH_take (i := 45) (v := ?v47) rfl (by kernel_rfl) (by kernel_rfl) (by kernel_rfl) (fun _ _ _ h => h) (Or.inl ⟨by rfl, ?hy47⟩) (by assumption) ?rest47
                case hy47 => (intro w hSw; (try dsimp only at hSw); simp only [List.getElem_toArray, List.getElem_cons_zero, List.getElem_cons_succ]; go_simp; (try with_reducible rfl))
                (try simp only [Act.put, List.getElem_toArray, List.getElem_cons_zero, List.getElem_cons_succ, List.setIfInBounds_toArray, List.set_cons_zero, List.set_cons_succ])
                refine wpAnyH_take (i := 46) (v := ?v48) rfl (by kernel_rfl) (by kernel_rfl) (by kernel_rfl) (fun _ _ _ h => h) (Or.inl ⟨by rfl, ?hy48⟩) (by assumption) ?rest48
                case hy48 => (intro w hSw; (try dsimp only at hSw); simp only [List.getElem_toArray, List.getElem_cons_zero, List.getElem_cons_succ]; go_simp; (try with_reducible rfl))
                (try simp only [Act.put, List.getElem_toArray, List.getElem_cons_zero, List.getElem_cons_succ, List.setIfInBounds_toArray, List.set_cons_zero, List.set_cons_succ])
                refine wpAnyH_done (by kernel_rfl) ?_ _
                clear hHeld
                go_wp2_with fail
                go_roundw
                case rel => exact ⟨i + 1, by omega, by go_num, HOF.out.drew⟩
                case measure => simp [intOf]; omega
              · have hpe : setR S r K i = (3, 0, 0) := by unfold setR; rw [if_neg hir, if_pos ⟨by omega, j2⟩]
                rw [hpe] at hp
                cases hp
                have z1 : ((i : Int) == (r : Int)) = false := by simp; omega
                clear hpe hir
                go_wp2_with (go_at_call 22; refine HS.out.mono ?_; rintro e wE ⟨rfl, hE⟩; have HOE := hid_mk hE; clear hE)
                obtain ⟨u0, u1, u2⟩ := box3 (heap_alloc_new wE (.cells #[.int .i64 3, .int .i64 0, .int .i64 0] 45))
                have HOF := hid_mk ((HO.out.trans HOE.out).alloc (.cells #[.int .i64 3, .int .i64 0, .int .i64 0] 45))
                obtain ⟨Y, hY⟩ : ∃ Y, wE.heap.size = Y := ⟨_, rfl⟩
                obtain ⟨WF, hWF⟩ : ∃ WF, wE.alloc (.cells #[.int .i64 3, .int .i64 0, .int .i64 0] 45) = WF := ⟨_, rfl⟩
                rw [hWF] at u0 u1 u2 HOF ⊢
                rw [hY] at u0 u1 u2 ⊢
                clear hWF hY HS HOE
                refine wp_region_held_drew (S := fun w' => w'.cell? ⟨Y, 0, none⟩ = some (.int .i64 3) ∧ w'.cell? ⟨Y, 1, none⟩ = some (.int .i64 0) ∧ w'.cell? ⟨Y, 2, none⟩ = some (.int .i64 0)) (by kernel_rfl) ?hS49 (fun hHeld => ?rest49)
                case hS49 => exact ⟨u0, u1, u2⟩
                refine wpAnyH_take (i := 0) (v := ?v50) rfl (by kernel_rfl) (by kernel_rfl) (by kernel_rfl) (fun _ _ _ h => h) (Or.inl ⟨by rfl, ?hy50⟩) (by assumption) ?rest50
                case hy50 => (intro w hSw; (try dsimp only at hSw); simp only [List.getElem_toArray, List.getElem_cons_zero, List.getElem_cons_succ]; go_simp; (try with_reducible rfl))
                (try simp only [Act.put, List.getElem_toArray, List.getElem_cons_zero, List.getElem_cons_succ, List.setIfInBounds_toArray, List.set_cons_zero, List.set_cons_succ])
                refine wpAnyH_take (i := 1) (v := ?v51) rfl (by kernel_rfl) (by kernel_rfl) (by kernel_rfl) (fun _ _ _ h => h) (Or.inl ⟨by rfl, ?hy51⟩) (by assumption) ?rest51
                case hy51 => (intro w hSw; (try dsimp only at hSw); simp only [List.getElem_toArray, List.getElem_cons_zero, List.getElem_cons_succ]; go_simp; (try with_reducible rfl))
                (try simp only [Act.put, List.getElem_toArray, List.getElem_cons_zero, List.getElem_cons_succ, List.setIfInBounds_toArray, List.set_cons_zero, List.set_cons_succ])
                refine wpAnyH_take (i := 2) (v := ?v52) rfl (by kernel_rfl) (by kernel_rfl) (by kernel_rfl) (fun _ _ _ h => h) (Or.inl ⟨by rfl, ?hy52⟩) (by assumption) ?rest52
                case hy52 => (intro w hSw; (try dsimp only at hSw); simp only [List.getElem_toArray, List.getElem_cons_zero, List.getElem_cons_succ]; go_simp; (try with_reducible rfl))
                (try simp only [Act.put, List.getElem_toArray, List.getElem_cons_zero, List.getElem_cons_succ, List.setIfInBounds_toArray, List.set_cons_zero, List.set_cons_succ])
                refine wpAnyH_take (i := 3) (v := ?v53) rfl (by kernel_rfl) (by kernel_rfl) (by kernel_rfl) (fun _ _ _ h => h) (Or.inl ⟨by rfl, ?hy53⟩) (by assumption) ?rest53
                case hy53 => (intro w hSw; (try dsimp only at hSw); simp only [List.getElem_toArray, List.getElem_cons_zero, List.getElem_cons_succ]; go_simp; (try with_reducible rfl))
                (try simp only [Act.put, List.getElem_toArray, List.getElem_cons_zero, List.getElem_cons_succ, List.setIfInBounds_toArray, List.set_cons_zero, List.set_cons_succ])
                refine wpAnyH_take (i := 4) (v := undef) rfl (by kernel_rfl) (by kernel_rfl) (by kernel_rfl) (fun _ _ _ h => h) (Or.inr ⟨by rfl, rfl⟩) (by assumption) ?rest54
                (try simp only [Act.put, List.getElem_toArray, List.getElem_cons_zero, List.getElem_cons_succ, List.setIfInBounds_toArray, List.set_cons_zero, List.set_cons_succ])
                refine wpAnyH_take (i := 5) (v := undef) rfl (by kernel_rfl) (by kernel_rfl) (by kernel_rfl) (fun _ _ _ h => h) (Or.inr ⟨by rfl, rfl⟩) (by assumption) ?rest55
                (try simp only [Act.put, List.getElem_toArray, List.getElem_cons_zero, List.getElem_cons_succ, List.setIfInBounds_toArray, List.set_cons_zero, List.set_cons_succ])
                refine wpAnyH_take (i := 6) (v := undef) rfl (by kernel_rfl) (by kernel_rfl) (by kernel_rfl) (fun _ _ _ h => h) (Or.inr ⟨by rfl, rfl⟩) (by assumption) ?rest56
                (try simp only [Act.put, List.getElem_toArray, List.getElem_cons_zero, List.getElem_cons_succ, List.setIfInBounds_toArray, List.set_cons_zero, List.set_cons_succ])
                refine wpAnyH_take (i := 7) (v := ?v57) rfl (by kernel_rfl) (by kernel_rfl) (by kernel_rfl) (fun _ _ _ h => h) (Or.inl ⟨by rfl, ?hy57⟩) (by assumption) ?rest57
                case hy57 => (intro w hSw; (try dsimp only at hSw); simp only [List.getElem_toArray, List.getElem_cons_zero, List.getElem_cons_succ]; go_simp; (try with_reducible rfl))
                (try simp only [Act.put, List.getElem_toArray, List.getElem_cons_zero, List.getElem_cons_succ, List.setIfInBounds_toArray, List.set_cons_zero, List.set_cons_succ])
                refine wpAnyH_take (i := 8) (v := ?v58) rfl (by kernel_rfl) (by kernel_rfl) (by kernel_rfl) (fun _ _ _ h => h) (Or.inl ⟨by rfl, ?hy58⟩) (by assumption) ?rest58
                case hy58 => (intro w hSw; (try dsimp only at hSw); simp only [List.getElem_toArray, List.getElem_cons_zero, List.getElem_cons_succ]; go_simp; (try with_reducible rfl))
                (try simp only [Act.put, List.getElem_toArray, List.getElem_cons_zero, List.getElem_cons_succ, List.setIfInBounds_toArray, List.set_cons_zero, List.set_cons_succ])
                refine wpAnyH_take (i := 9) (v := undef) rfl (by kernel_rfl) (by kernel_rfl) (by kernel_rfl) (fun _ _ _ h => h) (Or.inr ⟨by rfl, rfl⟩) (by assumption) ?rest59
                (try simp only [Act.put, List.getElem_toArray, List.getElem_cons_zero, List.getElem_cons_succ, List.setIfInBounds_toArray, List.set_cons_zero, List.set_cons_succ])
                refine wpAnyH_take (i := 10) (v := undef) rfl (by kernel_rfl) (by kernel_rfl) (by kernel_rfl) (fun _ _ _ h => h) (Or.inr ⟨by rfl, rfl⟩) (by assumption) ?rest60
                (try simp only [Act.put, List.getElem_toArray, List.getElem_cons_zero, List.getElem_cons_succ, List.setIfInBounds_toArray, List.set_cons_zero, List.set_cons_succ])
                refine wpAnyH_take (i := 11) (v := undef) rfl (by kernel_rfl) (by kernel_rfl) (by kernel_rfl) (fun _ _ _ h => h) (Or.inr ⟨by rfl, rfl⟩) (by assumption) ?rest61
                (try simp only [Act.put, List.getElem_toArray, List.getElem_cons_zero, List.getElem_cons_succ, List.setIfInBounds_toArray, List.set_cons_zero, List.set_cons_succ])
                refine wpAnyH_take (i := 12) (v := undef) rfl (by kernel_rfl) (by kernel_rfl) (by kernel_rfl) (fun _ _ _ h => h) (Or.inr ⟨by rfl, rfl⟩) (by assumption) ?rest62
                (try simp only [Act.put, List.getElem_toArray, List.getElem_cons_zero, List.getElem_cons_succ, List.setIfInBounds_toArray, List.set_cons_zero, List.set_cons_succ])
                refine wpAnyH_take (i := 13) (v := undef) rfl (by kernel_rfl) (by kernel_rfl) (by kernel_rfl) (fun _ _ _ h => h) (Or.inr ⟨by rfl, rfl⟩) (by assumption) ?rest63
                (try simp only [Act.put, List.getElem_toArray, List.getElem_cons_zero, List.getElem_cons_succ, List.setIfInBounds_toArray, List.set_cons_zero, List.set_cons_succ])
                refine wpAnyH_take (i := 14) (v := ?v64) rfl (by kernel_rfl) (by kernel_rfl) (by kernel_rfl) (fun _ _ _ h => h) (Or.inl ⟨by rfl, ?hy64⟩) (by assumption) ?rest64
                case hy64 => (intro w hSw; (try dsimp only at hSw); simp only [List.getElem_toArray, List.getElem_cons_zero, List.getElem_cons_succ]; go_simp; (try with_reducible rfl))
                (try simp only [Act.put, List.getElem_toArray, List.getElem_cons_zero, List.getElem_cons_succ, List.setIfInBounds_toArray, List.set_cons_zero, List.set_cons_succ])
                refine wpAnyH_take (i := 15) (v := ?v65) rfl (by kernel_rfl) (by kernel_rfl) (by kernel_rfl) (fun _ _ _ h => h) (Or.inl ⟨by rfl, ?hy65⟩) (by assumption) ?rest65
                case hy65 => (intro w hSw; (try dsimp only at hSw); simp only [List.getElem_toArray, List.getElem_cons_zero, List.getElem_cons_succ]; go_simp; (try with_reducible rfl))
                (try simp only [Act.put, List.getElem_toArray, List.getElem_cons_zero, List.getElem_cons_succ, List.setIfInBounds_toArray, List.set_cons_zero, List.set_cons_succ])
                refine wpAnyH_take (i := 16) (v := undef) rfl (by kernel_rfl) (by kernel_rfl) (by kernel_rfl) (fun _ _ _ h => h) (Or.inr ⟨by rfl, rfl⟩) (by assumption) ?rest66
                (try simp only [Act.put, List.getElem_toArray, List.getElem_cons_zero, List.getElem_cons_succ, List.setIfInBounds_toArray, List.set_cons_zero, List.set_cons_succ])
                refine wpAnyH_take (i := 17) (v := undef) rfl (by kernel_rfl) (by kernel_rfl) (by kernel_rfl) (fun _ _ _ h => h) (Or.inr ⟨by rfl, rfl⟩) (by assumption) ?rest67
                (try simp only [Act.put, List.getElem_toArray, List.getElem_cons_zero, List.getElem_cons_succ, List.setIfInBounds_toArray, List.set_cons_zero, List.set_cons_succ])
                refine wpAnyH_take (i := 18) (v := undef) rfl (by kernel_rfl) (by kernel_rfl) (by kernel_rfl) (fun _ _ _ h => h) (Or.inr ⟨by rfl, rfl⟩) (by assumption) ?rest68
                (try simp only [Act.put, List.getElem_toArray, List.getElem_cons_zero, List.getElem_cons_succ, List.setIfInBounds_toArray, List.set_cons_zero, List.set_cons_succ])
                refine wpAnyH_take (i := 19) (v := ?v69) rfl (by kernel_rfl) (by kernel_rfl) (by kernel_rfl) (fun _ _ _ h => h) (Or.inl ⟨by rfl, ?hy69⟩) (by assumption) ?rest69
                case hy69 => (intro w hSw; (try dsimp only at hSw); simp only [List.getElem_toArray, List.getElem_cons_zero, List.getElem_cons_succ]; go_simp; (try with_reducible rfl))
                (try simp only [Act.put, List.getElem_toArray, List.getElem_cons_zero, List.getElem_cons_succ, List.setIfInBounds_toArray, List.set_cons_zero, List.set_cons_succ])
                refine wpAnyH_take (i := 20) (v := ?v70) rfl (by kernel_rfl) (by kernel_rfl) (by kernel_rfl) (fun _ _ _ h => h) (Or.inl ⟨by rfl, ?hy70⟩) (by assumption) ?rest70
                case hy70 => (intro w hSw; (try dsimp only at hSw); simp only [List.getElem_toArray, List.getElem_cons_zero, List.getElem_cons_succ]; go_simp; (try with_reducible rfl))
                (try simp only [Act.put, List.getElem_toArray, List.getElem_cons_zero, List.getElem_cons_succ, List.setIfInBounds_toArray, List.set_cons_zero, List.set_cons_succ])
                refine wpAnyH_take (i := 21) (v := ?v71) rfl (by kernel_rfl) (by kernel_rfl) (by kernel_rfl) (fun _ _ _ h => h) (Or.inl ⟨by rfl, ?hy71⟩) (by assumption) ?rest71
                case hy71 => (intro w hSw; (try dsimp only at hSw); simp only [List.getElem_toArray, List.getElem_cons_zero, List.getElem_cons_succ]; go_simp; (try with_reducible rfl))
                (try simp only [Act.put, List.getElem_toArray, List.getElem_cons_zero, List.getElem_cons_succ, List.setIfInBounds_toArray, List.set_cons_zero, List.set_cons_succ])
                refine wpAnyH_take (i := 22) (v := ?v72) rfl (by kernel_rfl) (by kernel_rfl) (by kernel_rfl) (fun _ _ _ h => h) (Or.inl ⟨by rfl, ?hy72⟩) (by assumption) ?rest72
                case hy72 => (intro w hSw; (try dsimp only at hSw); simp only [List.getElem_toArray, List.getElem_cons_zero, List.getElem_cons_succ]; go_simp; (try with_reducible rfl))
                (try simp only [Act.put, List.getElem_toArray, List.getElem_cons_zero, List.getElem_cons_succ, List.setIfInBounds_toArray, List.set_cons_zero, List.set_cons_succ])
                refine wpAnyH_take (i := 23) (v := ?v73) rfl (by kernel_rfl) (by kernel_rfl) (by kernel_rfl) (fun _ _ _ h => h) (Or.inl ⟨by rfl, ?hy73⟩) (by assumption) ?rest73
                case hy73 => (intro w hSw; (try dsimp only at hSw); simp only [List.getElem_toArray, List.getElem_cons_zero, List.getElem_cons_succ]; go_simp; (try with_reducible rfl))
                (try simp only [Act.put, List.getElem_toArray, List.getElem_cons_zero, List.getElem_cons_succ, List.setIfInBounds_toArray, List.set_cons_zero, List.set_cons_succ])
                refine wpAnyH_take (i := 24) (v := ?v74) rfl (by kernel_rfl) (by kernel_rfl) (by kernel_rfl) (fun _ _ _ h => h) (Or.inl ⟨by rfl, ?hy74⟩) (by assumption) ?rest74
                case hy74 => (intro w hSw; (try dsimp only at hSw); simp only [List.getElem_toArray, List.getElem_cons_zero, List.getElem_cons_succ]; go_simp; (try with_reducible rfl))
                (try simp only [Act.put, List.getElem_toArray, List.getElem_cons_zero, List.getElem_cons_succ, List.setIfInBounds_toArray, List.set_cons_zero, List.set_cons_succ])
                refine wpAnyH_take (i := 25) (v := ?v75) rfl (by kernel_rfl) (by kernel_rfl) (by kernel_rfl) (fun _ _ _ h => h) (Or.inl ⟨by rfl, ?hy75⟩) (by assumption) ?rest75
                case hy75 => (intro w hSw; (try dsimp only at hSw); simp only [List.getElem_toArray, List.getElem_cons_zero, List.getElem_cons_succ]; go_simp; (try with_reducible rfl))
                (try simp only [Act.put, List.getElem_toArray, List.getElem_cons_zero, List.getElem_cons_succ, List.setIfInBounds_toArray, List.set_cons_zero, List.set_cons_succ])
                refine wpAnyH_take (i := 26) (v := ?v76) rfl (by kernel_rfl) (by kernel_rfl) (by kernel_rfl) (fun _ _ _ h => h) (Or.inl ⟨by rfl, ?hy76⟩) (by assumption) ?rest76
                case hy76 => (intro w hSw; (try dsimp only at hSw); simp only [List.getElem_toArray, List.getElem_cons_zero, List.getElem_cons_succ]; go_simp; (try with_reducible rfl))
                (try simp only [Act.put, List.getElem_toArray, List.getElem_cons_zero, List.getElem_cons_succ, List.setIfInBounds_toArray, List.set_cons_zero, List.set_cons_succ])
                refine wpAnyH_take (i := 27) (v := ?v77) rfl (by kernel_rfl) (by kernel_rfl) (by kernel_rfl) (fun _ _ _ h => h) (Or.inl ⟨by rfl, ?hy77⟩) (by assumption) ?rest77
                case hy77 => (intro w hSw; (try dsimp only at hSw); simp only [List.getElem_toArray, List.getElem_cons_zero, List.getElem_cons_succ]; go_simp; (try with_reducible rfl))
                (try simp only [Act.put, List.getElem_toArray, List.getElem_cons_zero, List.getElem_cons_succ, List.setIfInBounds_toArray, List.set_cons_zero, List.set_cons_succ])
                refine wpAnyH_take (i := 28) (v := ?v78) rfl (by kernel_rfl) (by kernel_rfl) (by kernel_rfl) (fun _ _ _ h => h) (Or.inl ⟨by rfl, ?hy78⟩) (by assumption) ?rest78
                case hy78 => (intro w hSw; (try dsimp only at hSw); simp only [List.getElem_toArray, List.getElem_cons_zero, List.getElem_cons_succ]; go_simp; (try with_reducible rfl))
                (try simp only [Act.put, List.getElem_toArray, List.getElem_cons_zero, List.getElem_cons_succ, List.setIfInBounds_toArray, List.set_cons_zero, List.set_cons_succ])
                refine wpAnyH_take (i := 29) (v := ?v79) rfl (by kernel_rfl) (by kernel_rfl) (by kernel_rfl) (fun _ _ _ h => h) (Or.inl ⟨by rfl, ?hy79⟩) (by assumption) ?rest79
                case hy79 => (intro w hSw; (try dsimp only at hSw); simp only [List.getElem_toArray, List.getElem_cons_zero, List.getElem_cons_succ]; go_simp; (try with_reducible rfl))
                (try simp only [Act.put, List.getElem_toArray, List.getElem_cons_zero, List.getElem_cons_succ, List.setIfInBounds_toArray, List.set_cons_zero, List.set_cons_succ])
                refine wpAnyH_take (i := 30) (v := undef) rfl (by kernel_rfl) (by kernel_rfl) (by kernel_rfl) (fun _ _ _ h => h) (Or.inr ⟨by rfl, rfl⟩) (by assumption) ?rest80
                (try simp only [Act.put, List.getElem_toArray, List.getElem_cons_zero, List.getElem_cons_succ, List.setIfInBounds_toArray, List.set_cons_zero, List.set_cons_succ])
                refine wpAnyH_take (i := 31) (v := undef) rfl (by kernel_rfl) (by kernel_rfl) (by kernel_rfl) (fun _ _ _ h => h) (Or.inr ⟨by rfl, rfl⟩) (by assumption) ?rest81
                (try simp only [Act.put, List.getElem_toArray, List.getElem_cons_zero, List.getElem_cons_succ, List.setIfInBounds_toArray, List.set_cons_zero, List.set_cons_succ])
                refine wpAnyH_take (i := 32) (v := undef) rfl (by kernel_rfl) (by kernel_rfl) (by kernel_rfl) (fun _ _ _ h => h) (Or.inr ⟨by rfl, rfl⟩) (by assumption) ?rest82
                (try simp only [Act.put, List.getElem_toArray, List.getElem_cons_zero, List.getElem_cons_succ, List.setIfInBounds_toArray, List.set_cons_zero, List.set_cons_succ])
                refine wpAnyH_take (i := 33) (v := ?v83) rfl (by kernel_rfl) (by kernel_rfl) (by kernel_rfl) (fun _ _ _ h => h) (Or.inl ⟨by rfl, ?hy83⟩) (by assumption) ?rest83
                case hy83 => (intro w hSw; (try dsimp only at hSw); simp only [List.getElem_toArray, List.getElem_cons_zero, List.getElem_cons_succ]; go_simp; (try with_reducible rfl))
                (try simp only [Act.put, List.getElem_toArray, List.getElem_cons_zero, List.getElem_cons_succ, List.setIfInBounds_toArray, List.set_cons_zero, List.set_cons_succ])
                refine wpAnyH_take (i := 34) (v := ?v84) rfl (by kernel_rfl) (by kernel_rfl) (by kernel_rfl) (fun _ _ _ h => h) (Or.inl ⟨by rfl, ?hy84⟩) (by assumption) ?rest84
                case hy84 => (intro w hSw; (try dsimp only at hSw); simp only [List.getElem_toArray, List.getElem_cons_zero, List.getElem_cons_succ]; go_simp; (try with_reducible rfl))
                (try simp only [Act.put, List.getElem_toArray, List.getElem_cons_zero, List.getElem_cons_succ, List.setIfInBounds_toArray, List.set_cons_zero, List.set_cons_succ])
                refine wpAnyH_take (i := 35) (v := undef) rfl (by kernel_rfl) (by kernel_rfl) (by kernel_rfl) (fun _ _ _ h => h) (Or.inr ⟨by rfl, rfl⟩) (by assumption) ?rest85
                (try simp only [Act.put, List.getElem_toArray, List.getElem_cons_zero, List.getElem_cons_succ, List.setIfInBounds_toArray, List.set_cons_zero, List.set_cons_succ])
                refine wpAnyH_take (i := 36) (v := undef) rfl (by kernel_rfl) (by kernel_rfl) (by kernel_rfl) (fun _ _ _ h => h) (Or.inr ⟨by rfl, rfl⟩) (by assumption) ?rest86
                (try simp only [Act.put, List.getElem_toArray, List.getElem_cons_zero, List.getElem_cons_succ, List.setIfInBounds_toArray, List.set_cons_zero, List.set_cons_succ])
                refine wpAnyH_take (i := 37) (v := undef) rfl (by kernel_rfl) (by kernel_rfl) (by kernel_rfl) (fun _ _ _ h => h) (Or.inr ⟨by rfl, rfl⟩) (by assumption) ?rest87
                (try simp only [Act.put, List.getElem_toArray, List.getElem_cons_zero, List.getElem_cons_succ, List.setIfInBounds_toArray, List.set_cons_zero, List.set_cons_succ])
                refine wpAnyH_take (i := 38) (v := undef) rfl (by kernel_rfl) (by kernel_rfl) (by kernel_rfl) (fun _ _ _ h => h) (Or.inr ⟨by rfl, rfl⟩) (by assumption) ?rest88
                (try simp only [Act.put, List.getElem_toArray, List.getElem_cons_zero, List.getElem_cons_succ, List.setIfInBounds_toArray, List.set_cons_zero, List.set_cons_succ])
                refine wpAnyH_take (i := 39) (v := ?v89) rfl (by kernel_rfl) (by kernel_rfl) (by kernel_rfl) (fun _ _ _ h => h) (Or.inl ⟨by rfl, ?hy89⟩) (by assumption) ?rest89
                case hy89 => (intro w hSw; (try dsimp only at hSw); simp only [List.getElem_toArray, List.getElem_cons_zero, List.getElem_cons_succ]; go_simp; (try with_reducible rfl))
                (try simp only [Act.put, List.getElem_toArray, List.getElem_cons_zero, List.getElem_cons_succ, List.setIfInBounds_toArray, List.set_cons_zero, List.set_cons_succ])
                refine wpAnyH_take (i := 40) (v := ?v90) rfl (by kernel_rfl) (by kernel_rfl) (by kernel_rfl) (fun _ _ _ h => h) (Or.inl ⟨by rfl, ?hy90⟩) (by assumption) ?rest90
                case hy90 => (intro w hSw; (try dsimp only at hSw); simp only [List.getElem_toArray, List.getElem_cons_zero, List.getElem_cons_succ]; go_simp; (try with_reducible rfl))
                (try simp only [Act.put, List.getElem_toArray, List.getElem_cons_zero, List.getElem_cons_succ, List.setIfInBounds_toArray, List.set_cons_zero, List.set_cons_succ])
                refine wpAnyH_take (i := 41) (v := undef) rfl (by kernel_rfl) (by kernel_rfl) (by kernel_rfl) (fun _ _ _ h => h) (Or.inr ⟨by rfl, rfl⟩) (by assumption) ?rest91
                (try simp only [Act.put, List.getElem_toArray, List.getElem_cons_zero, List.getElem_cons_succ, List.setIfInBounds_toArray, List.set_cons_zero, List.set_cons_succ])
                refine wpAnyH_take (i := 42) (v := undef) rfl (by kernel_rfl) (by kernel_rfl) (by kernel_rfl) (fun _ _ _ h => h) (Or.inr ⟨by rfl, rfl⟩) (by assumption) ?rest92
                (try simp only [Act.put, List.getElem_toArray, List.getElem_cons_zero, List.getElem_cons_succ, List.setIfInBounds_toArray, List.set_cons_zero, List.set_cons_succ])
                refine wpAnyH_take (i := 43) (v := undef) rfl (by kernel_rfl) (by kernel_rfl) (by kernel_rfl) (fun _ _ _ h => h) (Or.inr ⟨by rfl, rfl⟩) (by assumption) ?rest93
                (try simp only [Act.put, List.getElem_toArray, List.getElem_cons_zero, List.getElem_cons_succ, List.setIfInBounds_toArray, List.set_cons_zero, List.set_cons_succ])
                refine wpAnyH_take (i := 44) (v := ?v94) rfl (by kernel_rfl) (by kernel_rfl) (by kernel_rfl) (fun _ _ _ h => h) (Or.inl ⟨by rfl, ?hy94⟩) (by assumption) ?rest94
                case hy94 => (intro w hSw; (try dsimp only at hSw); simp only [List.getElem_toArray, List.getElem_cons_zero, List.getElem_cons_succ]; go_simp; (try with_reducible rfl))
                (try simp only [Act.put, List.getElem_toArray, List.getElem_cons_zero, List.getElem_cons_succ, List.setIfInBounds_toArray, List.set_cons_zero, List.set_cons_succ])
                refine wpAnyH_take (i := 45) (v := ?v95) rfl (by kernel_rfl) (by kernel_rfl) (by kernel_rfl) (fun _ _ _ h => h) (Or.inl ⟨by rfl, ?hy95⟩) (by assumption) ?rest95
                case hy95 => (intro w hSw; (try dsimp only at hSw); simp only [List.getElem_toArray, List.getElem_cons_zero, List.getElem_cons_succ]; go_simp; (try with_reducible rfl))
                (try simp only [Act.put, List.getElem_toArray, List.getElem_cons_zero, List.getElem_cons_succ, List.setIfInBounds_toArray, List.set_cons_zero, List.set_cons_succ])
                refine wpAnyH_take (i := 46) (v := ?v96) rfl (by kernel_rfl) (by kernel_rfl) (by kernel_rfl) (fun _ _ _ h => h) (Or.inl ⟨by rfl, ?hy96⟩) (by assumption) ?rest96
                case hy96 => (intro w hSw; (try dsimp only at hSw); simp only [List.getElem_toArray, List.getElem_cons_zero, List.getElem_cons_succ]; go_simp; (try with_reducible rfl))
                (try simp only [Act.put, List.getElem_toArray, List.getElem_cons_zero, List.getElem_cons_succ, List.setIfInBounds_toArray, List.set_cons_zero, List.set_cons_succ])
                refine wpAnyH_done (by kernel_rfl) ?_ _
                clear hHeld
                go_wp2_with fail
                go_roundw
                case rel => exact ⟨i + 1, by omega, by go_num, HOF.out.drew⟩
                case measure => simp [intOf]; omega
            · have hpe : (setR S r K) i = S i := by unfold setR; rw [if_neg (by omega), if_neg (by omega)]
              rw [hpe] at hp
              obtain ⟨q0, q1, q2⟩ := HWs.out.at hi
              rw [hp] at q0 q1 q2
              clear hp hpe
              have HQ0 := hid_mk q0
              have HQ1 := hid_mk q1
              have HQ2 := hid_mk q2
              clear q0 q1 q2
              have z1 : (x != x) = false := by simp
              have z2 : (y != y) = false := by simp
              have z3 : (t != t) = false := by simp
              by_cases hlo : i < r
              · have b2 : (i : Int) < (r : Int) := by omega
                clear hin hlo
                go_wp2_with (go_at_call 22; refine HS.out.mono ?_; rintro e wE ⟨rfl, hE⟩; have HOE := hid_mk hE; have q0 := (hE.alloc (.cells #[.int .i64 x, .int .i64 y, .int .i64 t] 45)).cell HQ0.out (.inr (Nat.zero_le _)); have q1 := (hE.alloc (.cells #[.int .i64 x, .int .i64 y, .int .i64 t] 45)).cell HQ1.out (.inr (Nat.zero_le _)); have q2 := (hE.alloc (.cells #[.int .i64 x, .int .i64 y, .int .i64 t] 45)).cell HQ2.out (.inr (Nat.zero_le _)); obtain ⟨u0, u1, u2⟩ := box3 (heap_alloc_new wE (.cells #[.int .i64 x, .int .i64 y, .int .i64 t] 45)); clear hE)
                go_region
                all_goals go_wp2
                all_goals go_roundw
                all_goals first | exact ⟨i + 1, by omega, by go_num, ((HO.out.trans HOE.out).alloc _).drew⟩ | (simp [intOf]; omega)
              · have b2 : (r : Int) ≤ (i : Int) := by omega
                have b3 : (r : Int) + (K : Int) ≤ (i : Int) := by omega
                clear hin hlo
                go_wp2_with (go_at_call 22; refine HS.out.mono ?_; rintro e wE ⟨rfl, hE⟩; have HOE := hid_mk hE; have q0 := (hE.alloc (.cells #[.int .i64 x, .int .i64 y, .int .i64 t] 45)).cell HQ0.out (.inr (Nat.zero_le _)); have q1 := (hE.alloc (.cells #[.int .i64 x, .int .i64 y, .int .i64 t] 45)).cell HQ1.out (.inr (Nat.zero_le _)); have q2 := (hE.alloc (.cells #[.int .i64 x, .int .i64 y, .int .i64 t] 45)).cell HQ2.out (.inr (Nat.zero_le _)); obtain ⟨u0, u1, u2⟩ := box3 (heap_alloc_new wE (.cells #[.int .i64 x, .int .i64 y, .int .i64 t] 45)); clear hE)
                go_region
                all_goals go_wp2
                all_goals go_roundw
                all_goals first | exact ⟨i + 1, by omega, by go_num, ((HO.out.trans HOE.out).alloc _).drew⟩ | (simp [intOf]; omega)
          · have : N = i := by omega
            subst this
            clear ho hi
            go_wp2
            go_ret
            exact ⟨rfl, (HOD.out.trans HO.out).all⟩
set_option maxRecDepth 100000 in
set_option maxHeartbeats 16000000 in
theorem lowest_even {w : World} (hT : Tab w) (n0 c long : Int) (hn : -9223372036854775808 ≤ n0 ∧ n0 ≤ 9223372036854775807) (hc : -9223372036854775808 ≤ c ∧ c ≤ 9223372036854775807) (hl : -9223372036854775808 ≤ long ∧ long ≤ 9223372036854775807) (hodd : long.tmod 2 = 0) {a : Option Addr} {len cap : Nat} (hA : 0 < len → ∃ b off q, a = some ⟨b, off, none⟩ ∧ Script w b off len q) :
    Calls Tryd.prog 7 #[.int .i64 n0, .slice a len cap, .int .i64 c, .int .i64 long] w fun e w' => e = .returned (.bool true) ∧ Below w.heap.size w w' := by
  obtain ⟨m, hm, hm2⟩ := wth_nat n0 60 (by decide)
  have HW1 := hid_mk (within_any n0 60 w hn.1 hn.2 (by decide) (by decide))
  rw [hm] at HW1
  obtain ⟨j, hj, hj2⟩ := wth_nat c 8 (by decide)
  have HW2 : Hid (∀ w', Calls Tryd.prog 14 #[.int .i64 c, .int .i64 8] w' fun e w'' => e = .returned (.int .i64 (j : Int)) ∧ w'' = w') := fun w' => by
    have := within_any c 8 w' hc.1 hc.2 (by decide) (by decide)
    rw [hj] at this
    exact this
  obtain ⟨N, hN⟩ : ∃ N : Nat, 1 + m = N := ⟨_, rfl⟩
  have eN : (1 : Int) + (m : Int) = (N : Int) := by omega
  have HNK : Hid (1 ≤ N ∧ N ≤ 60 ∧ 1 ≤ 1 ∧ 1 ≤ 16) := by show _ ∧ _ ∧ _ ∧ _; omega
  have HBu := hid_mk (busy_any hT N HNK.out.1 HNK.out.2.1 (cap := cap) hA)
  have HT := hid_mk hT
  have ho1 : (long.tmod 2 != 0) = false := by simp [hodd]
  have ho2 : (long.tmod 2 == 0) = true := by simp [hodd]
  clear hT hA hn hc hl hodd hm hj hN
  go_enter Tryd.func7, Tryd.ntmps7
  go_wp2_with (go_at_call 14; refine calls_same HW1.out ?_)
  refine HBu.out.mono ?_
  rintro e w1 ⟨b, bw, S, rfl, ht, l1, l2, ho⟩
  have HTt := hid_mk ht
  have HO1 := hid_mk ho
  have HLo : Hid (w.heap.size ≤ b ∧ w.heap.size ≤ bw) := ⟨l1, l2⟩
  have HAl := hid_mk (alive_any (HT.out.quiet ho))
  clear ht ho l1 l2 HBu HW1 eN
  have n6 : (N : Int) ≤ 60 := by have := HNK.out; omega
  have n5 : (1 : Int) ≤ (N : Int) := by have := HNK.out; omega
  have k5 : (1 : Int) ≤ (1 : Int) := by have := HNK.out; omega
  have k6 : (1 : Int) ≤ 16 := by have := HNK.out; omega
  go_wp2_with (first | (go_at_call 10; refine HAl.out.mono ?_; rintro e w2 ⟨rfl, ho⟩; have HO2 := hid_mk (HO1.out.trans ho); have HT2 := hid_mk (HTt.out.quiet ho); clear ho) | (go_at_call 14; refine calls_same (HW2.out _) ?_))
  clear HAl HTt HO1
  go_loopw [11, 12] (fun x y wr => ∃ (p : Int) (q : Option Nat), x = .int .i64 (wantI q) ∧ y = .int .i64 p ∧ LowInv S N 1 p q ∧ Out 0 0 w2 wr) (fun _ y _ => (intOf y + 1).toNat)
  case atStart => exact ⟨(N : Int) - 1, none, rfl, by go_num, LowInv.start S N 1 (by decide), Out.refl _ _ _⟩
  case round =>
    obtain ⟨p, q, rfl, rfl, hv, ho⟩ := hrel
    have HV := hid_mk hv
    have HO := hid_mk ho
    have p1 : p + (1 : Int) ≤ (N : Int) := hv.1
    have p2 : -16 ≤ p := hv.2.1
    by_cases hp : 0 ≤ p
    · obtain ⟨p', rfl⟩ := Int.eq_ofNat_of_zero_le hp
      clear hv ho
      go_wp2_with fail
      go_loopw [13, 14] (fun x y wr => ∃ i : Nat, i ≤ 1 ∧ x = .bool (allF S p' i) ∧ y = .int .i64 i ∧ Out 0 0 w2 wr) (fun _ y _ => 1 - (intOf y).toNat)
      case atStart => exact ⟨0, Nat.zero_le _, rfl, rfl, HO.out⟩
      case round =>
        clear HO
        obtain ⟨i, i1, rfl, rfl, ho⟩ := hrel
        have HO := hid_mk ho
        have b0 : (0 : Int) ≤ (i : Int) := by omega
        by_cases hi : i < 1
        · have b1 : (i : Int) < (1 : Int) := by omega
          have HF : Hid (∀ w', Out 0 0 w2 w' → Calls Tryd.prog 16 #[.pointer (some ⟨b, 0, none⟩), .int .i64 ((p' : Int) + (i : Int))] w' fun e w'' => e = .returned (.bool (freeB (S (p' + i)))) ∧ Out 0 0 w' w'') := fun w' o => by
            have := lfree_any (HT2.out.quiet o) (p' + i) (by omega)
            rw [show ((p' + i : Nat) : Int) = (p' : Int) + (i : Int) from by omega] at this
            exact this
          have HA := hid_mk (allF_succ S p' i)
          generalize allF S p' i = u at *
          generalize freeB (S (p' + i)) = f at *
          clear ho
          cases u with
          | false =>
            go_wp2
            go_roundw
            case rel => exact ⟨i + 1, by omega, by rw [HA.out]; rfl, by go_num, HO.out⟩
            case measure => simp [intOf]; omega
          | true =>
            go_wp2_with (go_at_call 16; refine (HF.out _ HO.out).mono ?_; rintro e w4 ⟨rfl, hO4⟩; have HO4 := hid_mk (HO.out.trans hO4); clear hO4)
            go_roundw
            case rel => exact ⟨i + 1, by omega, by rw [HA.out, Bool.true_and], by go_num, HO4.out⟩
            case measure => simp [intOf]; omega
        · have : i = 1 := by omega
          subst this
          rw [show ((1 : Nat) : Int) = 1 from rfl]
          clear ho
          cases ha : allF S p' 1 with
          | false =>
            have HV2 := hid_mk (HV.out.no ha)
            clear ha
            go_wp2
            go_roundw
            case rel => exact ⟨(p' : Int) - 1, q, rfl, by go_num, HV2.out, HO.out⟩
            case measure => simp [intOf]
          | true =>
            have HV2 := hid_mk (HV.out.yes ha)
            clear ha
            go_wp2
            go_roundw
            case rel => exact ⟨(p' : Int) - 1, some p', rfl, by go_num, HV2.out, HO.out⟩
            case measure => simp [intOf]
    · have p0 : p < 0 := by omega
      have hq := hv.done p0 (by omega)
      have HTn := hid_mk (HT2.out.quiet ho)
      have HOn := hid_mk (HO2.out.trans ho)
      have HAa := hid_mk (all_any HTn.out)
      clear hv ho hp HV HO HT2 HO2
      have HNb : Hid (bw < wr.heap.size) := HTn.out.nums.2.2.2.2.2.2
      go_wp2_with fail
      refine HAa.out.mono ?_
      rintro e wA ⟨g, cg, rfl, hl, ho⟩
      have HLA := hid_mk hl.slice
      have HGA : Hid (wr.heap.size ≤ g) := hl.row.2.1
      have HTA := hid_mk (HTn.out.quiet ho)
      have HOA := hid_mk (HOn.out.trans ho)
      have HFr := hid_mk (free_any HTA.out (HT.out.quiet HOA.out))
      obtain ⟨F, hF⟩ : ∃ F, cntF S N = F := ⟨_, rfl⟩
      rw [hF] at HFr
      clear hl ho HAa HTn HOn
      go_wp2_with fail
      refine HFr.out.mono ?_
      rintro e wB ⟨rfl, ho⟩
      have HLB := hid_mk (HLA.out.kept ho)
      have HTB := hid_mk (HTA.out.quiet ho)
      have HOB := hid_mk (HOA.out.trans ho)
      have f6 : (F : Int) ≤ 60 := by have := cntF_le S N; omega
      clear ho HFr HLA HTA HOA
      cases q with
      | none =>
        have HC : Hid (Calls Tryd.prog 20 #[.pointer (some ⟨b, 0, none⟩), .int .i64 j] wB fun e w' => e = .returned (.tuple #[.int .i64 0, .int .i64 20]) ∧ TblAt 70 w' b bw N S ∧ Out bw (bw + 1) wB w') := by
          have := takeClass_any HTB.out (HT.out.quiet HOB.out) (j : Int)
          obtain ⟨x1, x2, x3⟩ := tc_none (S := S) (j := j) (by omega) hq
          rw [x1, x2, x3] at this
          exact this
        clear hq hF
        rw [show wantI none = -1 from rfl]
        go_wp2_with (first | (go_at_call 14; refine calls_same (HW2.out _) ?_) | (go_at_call 20; refine HC.out.mono ?_; rintro e wC ⟨rfl, hC, hO⟩))
        have HTC := hid_mk hC
        have HLC := hid_mk (HLB.out.beside hO (by have := HNb.out; have := HGA.out; omega))
        have HOC : Hid (Out 0 0 w wC) := HOB.out.past hO HLo.out.2
        have HAC := hid_mk (all_any HTC.out)
        clear hC hO HLB HTB HOB HC
        go_wp2_with (first | (go_at_call 17; refine HAC.out.mono ?_; rintro e wD ⟨g2, cg2, rfl, hl, ho⟩; have HSD := hid_mk (same_any hl.slice (HLC.out.kept ho) (by rw [pgl_len]; omega)); have HOD := hid_mk (HOC.out.trans ho); clear hl ho) | (go_at_call 21; refine HSD.out.mono ?_; rintro e wE ⟨rfl, ho⟩; have HOE := hid_mk (HOD.out.trans ho); clear ho))
        go_ret
        exact ⟨rfl, HOE.out.all⟩
      | some r =>
        obtain ⟨r1, r2, r3⟩ := rowF_pages HTB.out.good hq
        have HC : Hid (Calls Tryd.prog 20 #[.pointer (some ⟨b, 0, none⟩), .int .i64 j] wB fun e w' => e = .returned (.tuple #[.int .i64 r, .int .i64 0]) ∧ TblAt 70 w' b bw N (setC S r j) ∧ Out bw (bw + 1) wB w') := by
          have := takeClass_any HTB.out (HT.out.quiet HOB.out) (j : Int)
          obtain ⟨x1, x2, x3⟩ := tc_some (S := S) (j := j) (by omega) hq
          rw [x1, x2, x3] at this
          exact this
        have hcn := cnt_class (c := (j : Int)) r1 (r3 r (Nat.le_refl _) (by omega))
        obtain ⟨F2, hF2⟩ : ∃ F2, cntF (setC S r j) N = F2 := ⟨_, rfl⟩
        have e2 : (F : Int) - (1 : Int) = (F2 : Int) := by omega
        have HR : Hid (r + 1 ≤ N ∧ r < N) := by show _ ∧ _; omega
        have r4 : (0 : Int) ≤ (r : Int) := by omega
        have r5 : (r : Int) < (N : Int) := by omega
        have r6 : (r : Int) + (1 : Int) ≤ (N : Int) := by have := HR.out; omega
        clear hq hF r1 r2 r3
        rw [show wantI (some r) = (r : Int) from rfl]
        go_wp2_with (first | (go_at_call 14; refine calls_same (HW2.out _) ?_) | (go_at_call 20; refine HC.out.mono ?_; rintro e wC ⟨rfl, hC, hO⟩))
        have HTC := hid_mk hC
        have HLC := hid_mk (HLB.out.beside hO (by have := HNb.out; have := HGA.out; omega))
        have HOC : Hid (Out 0 0 w wC) := HOB.out.past hO HLo.out.2
        have HFC := hid_mk (free_any HTC.out (HT.out.quiet HOC.out))
        rw [hF2] at HFC
        have e3 : ((F2 : Int) != (F2 : Int)) = false := by simp
        have e4 : ((r : Int) != (r : Int)) = false := by simp
        have e5 : ((N : Int) != (N : Int)) = false := by simp
        clear hC hO HLB HTB HOB HC hF2 hcn
        go_wp2_with (go_at_call 18; refine HFC.out.mono ?_; rintro e wD ⟨rfl, ho⟩; have HOD := hid_mk (HOC.out.trans ho); have HTD := hid_mk (HTC.out.quiet ho); have HLD := hid_mk (HLC.out.kept ho); clear ho)
        go_loopw [23] (fun y wr => ∃ i : Nat, i ≤ N ∧ y = .int .i64 i ∧ Out 0 0 wD wr) (fun y _ => N - (intOf y).toNat)
        case atStart => exact ⟨0, Nat.zero_le _, rfl, Out.refl _ _ _⟩
        case round =>
          obtain ⟨i, i1, rfl, ho⟩ := hrel
          have HO := hid_mk ho
          have b0 : (0 : Int) ≤ (i : Int) := by omega
          by_cases hi : i < N
          · have b1 : (i : Int) < (N : Int) := by omega
            have ei1 : inB N (i : Int) = true := by unfold inB; simp; omega
            have ei2 : stP (setC S r j) N (i : Int) = (setC S r j) i := by unfold stP; rw [ei1]; rfl
            obtain ⟨x, y, t, hp⟩ := page_of ((setC S r j) i)
            have HS : Hid (Calls Tryd.prog 22 #[.pointer (some ⟨b, 0, none⟩), .int .i64 i] wr fun e w' => e = .returned (.tuple #[.agg #[.int .i64 x, .int .i64 y, .int .i64 t], .bool true]) ∧ Out 0 0 wr w') := by
              have := state_any (HTD.out.quiet ho) (i : Int)
              rw [ei1, ei2, hp] at this
              exact this
            have HWs := hid_mk (HLD.out.kept ho)
            clear ei1 ei2 ho
            by_cases hin : r ≤ i ∧ i < r + 1
            · obtain ⟨j1, j2⟩ := hin
              have b2 : (r : Int) ≤ (i : Int) := by omega
              have b3 : (i : Int) < (r : Int) + (1 : Int) := by omega
              clear HWs
              have hir : i = r := by omega
              subst hir
              have hpe : setC S i (j : Int) i = (1, (j : Int), 0) := by unfold setC; rw [if_pos rfl]
              rw [hpe] at hp
              cases hp
              have z1 : ((i : Int) == (i : Int)) = true := by simp
              have z2 : ((j : Int) == (j : Int)) = true := by simp
              clear hpe
              go_wp2_with (go_at_call 22; refine HS.out.mono ?_; rintro e wE ⟨rfl, hE⟩; have HOE := hid_mk hE; clear hE)
              obtain ⟨u0, u1, u2⟩ := box3 (heap_alloc_new wE (.cells #[.int .i64 1, .int .i64 (j : Int), .int .i64 0] 45))
              have HOF := hid_mk ((HO.out.trans HOE.out).alloc (.cells #[.int .i64 1, .int .i64 (j : Int), .int .i64 0] 45))
              obtain ⟨Y, hY⟩ : ∃ Y, wE.heap.size = Y := ⟨_, rfl⟩
              obtain ⟨WF, hWF⟩ : ∃ WF, wE.alloc (.cells #[.int .i64 1, .int .i64 (j : Int), .int .i64 0] 45) = WF := ⟨_, rfl⟩
              rw [hWF] at u0 u1 u2 HOF ⊢
              rw [hY] at u0 u1 u2 ⊢
              clear hWF hY HS HOE
              refine wp_region_held_drew (S := fun w' => w'.cell? ⟨Y, 0, none⟩ = some (.int .i64 1) ∧ w'.cell? ⟨Y, 1, none⟩ = some (.int .i64 (j : Int)) ∧ w'.cell? ⟨Y, 2, none⟩ = some (.int .i64 0)) (by kernel_rfl) ?hS97 (fun hHeld => ?rest97)
              case hS97 => exact ⟨u0, u1, u2⟩
              refine wpAnyH_take (i := 0) (v := ?v98) rfl (by kernel_rfl) (by kernel_rfl) (by kernel_rfl) (fun _ _ _ h => h) (Or.inl ⟨by rfl, ?hy98⟩) (by assumption) ?rest98
              case hy98 => (intro w hSw; (try dsimp only at hSw); simp only [List.getElem_toArray, List.getElem_cons_zero, List.getElem_cons_succ]; go_simp; (try with_reducible rfl))
              (try simp only [Act.put, List.getElem_toArray, List.getElem_cons_zero, List.getElem_cons_succ, List.setIfInBounds_toArray, List.set_cons_zero, List.set_cons_succ])
              refine wpAnyH_take (i := 1) (v := ?v99) rfl (by kernel_rfl) (by kernel_rfl) (by kernel_rfl) (fun _ _ _ h => h) (Or.inl ⟨by rfl, ?hy99⟩) (by assumption) ?rest99
              case hy99 => (intro w hSw; (try dsimp only at hSw); simp only [List.getElem_toArray, List.getElem_cons_zero, List.getElem_cons_succ]; go_simp; (try with_reducible rfl))
              (try simp only [Act.put, List.getElem_toArray, List.getElem_cons_zero, List.getElem_cons_succ, List.setIfInBounds_toArray, List.set_cons_zero, List.set_cons_succ])
              refine wpAnyH_take (i := 2) (v := ?v100) rfl (by kernel_rfl) (by kernel_rfl) (by kernel_rfl) (fun _ _ _ h => h) (Or.inl ⟨by rfl, ?hy100⟩) (by assumption) ?rest100
              case hy100 => (intro w hSw; (try dsimp only at hSw); simp only [List.getElem_toArray, List.getElem_cons_zero, List.getElem_cons_succ]; go_simp; (try with_reducible rfl))
              (try simp only [Act.put, List.getElem_toArray, List.getElem_cons_zero, List.getElem_cons_succ, List.setIfInBounds_toArray, List.set_cons_zero, List.set_cons_succ])
              refine wpAnyH_take (i := 3) (v := ?v101) rfl (by kernel_rfl) (by kernel_rfl) (by kernel_rfl) (fun _ _ _ h => h) (Or.inl ⟨by rfl, ?hy101⟩) (by assumption) ?rest101
              case hy101 => (intro w hSw; (try dsimp only at hSw); simp only [List.getElem_toArray, List.getElem_cons_zero, List.getElem_cons_succ]; go_simp; (try with_reducible rfl))
              (try simp only [Act.put, List.getElem_toArray, List.getElem_cons_zero, List.getElem_cons_succ, List.setIfInBounds_toArray, List.set_cons_zero, List.set_cons_succ])
              refine wpAnyH_take (i := 4) (v := ?v102) rfl (by kernel_rfl) (by kernel_rfl) (by kernel_rfl) (fun _ _ _ h => h) (Or.inl ⟨by rfl, ?hy102⟩) (by assumption) ?rest102
              case hy102 => (intro w hSw; (try dsimp only at hSw); simp only [List.getElem_toArray, List.getElem_cons_zero, List.getElem_cons_succ]; go_simp; (try with_reducible rfl))
              (try simp only [Act.put, List.getElem_toArray, List.getElem_cons_zero, List.getElem_cons_succ, List.setIfInBounds_toArray, List.set_cons_zero, List.set_cons_succ])
              refine wpAnyH_take (i := 5) (v := ?v103) rfl (by kernel_rfl) (by kernel_rfl) (by kernel_rfl) (fun _ _ _ h => h) (Or.inl ⟨by rfl, ?hy103⟩) (by assumption) ?rest103
              case hy103 => (intro w hSw; (try dsimp only at hSw); simp only [List.getElem_toArray, List.getElem_cons_zero, List.getElem_cons_succ]; go_simp; (try with_reducible rfl))
              (try simp only [Act.put, List.getElem_toArray, List.getElem_cons_zero, List.getElem_cons_succ, List.setIfInBounds_toArray, List.set_cons_zero, List.set_cons_succ])
              refine wpAnyH_take (i := 6) (v := ?v104) rfl (by kernel_rfl) (by kernel_rfl) (by kernel_rfl) (fun _ _ _ h => h) (Or.inl ⟨by rfl, ?hy104⟩) (by assumption) ?rest104
              case hy104 => (intro w hSw; (try dsimp only at hSw); simp only [List.getElem_toArray, List.getElem_cons_zero, List.getElem_cons_succ]; go_simp; (try with_reducible rfl))
              (try simp only [Act.put, List.getElem_toArray, List.getElem_cons_zero, List.getElem_cons_succ, List.setIfInBounds_toArray, List.set_cons_zero, List.set_cons_succ])
              refine wpAnyH_take (i := 7) (v := ?v105) rfl (by kernel_rfl) (by kernel_rfl) (by kernel_rfl) (fun _ _ _ h => h) (Or.inl ⟨by rfl, ?hy105⟩) (by assumption) ?rest105
              case hy105 => (intro w hSw; (try dsimp only at hSw); simp only [List.getElem_toArray, List.getElem_cons_zero, List.getElem_cons_succ]; go_simp; (try with_reducible rfl))
              (try simp only [Act.put, List.getElem_toArray, List.getElem_cons_zero, List.getElem_cons_succ, List.setIfInBounds_toArray, List.set_cons_zero, List.set_cons_succ])
              refine wpAnyH_take (i := 8) (v := ?v106) rfl (by kernel_rfl) (by kernel_rfl) (by kernel_rfl) (fun _ _ _ h => h) (Or.inl ⟨by rfl, ?hy106⟩) (by assumption) ?rest106
              case hy106 => (intro w hSw; (try dsimp only at hSw); simp only [List.getElem_toArray, List.getElem_cons_zero, List.getElem_cons_succ]; go_simp; (try with_reducible rfl))
              (try simp only [Act.put, List.getElem_toArray, List.getElem_cons_zero, List.getElem_cons_succ, List.setIfInBounds_toArray, List.set_cons_zero, List.set_cons_succ])
              refine wpAnyH_take (i := 9) (v := ?v107) rfl (by kernel_rfl) (by kernel_rfl) (by kernel_rfl) (fun _ _ _ h => h) (Or.inl ⟨by rfl, ?hy107⟩) (by assumption) ?rest107
              case hy107 => (intro w hSw; (try dsimp only at hSw); simp only [List.getElem_toArray, List.getElem_cons_zero, List.getElem_cons_succ]; go_simp; (try with_reducible rfl))
              (try simp only [Act.put, List.getElem_toArray, List.getElem_cons_zero, List.getElem_cons_succ, List.setIfInBounds_toArray, List.set_cons_zero, List.set_cons_succ])
              refine wpAnyH_take (i := 10) (v := ?v108) rfl (by kernel_rfl) (by kernel_rfl) (by kernel_rfl) (fun _ _ _ h => h) (Or.inl ⟨by rfl, ?hy108⟩) (by assumption) ?rest108
              case hy108 => (intro w hSw; (try dsimp only at hSw); simp only [List.getElem_toArray, List.getElem_cons_zero, List.getElem_cons_succ]; go_simp; (try with_reducible rfl))
              (try simp only [Act.put, List.getElem_toArray, List.getElem_cons_zero, List.getElem_cons_succ, List.setIfInBounds_toArray, List.set_cons_zero, List.set_cons_succ])
              refine wpAnyH_take (i := 11) (v := ?v109) rfl (by kernel_rfl) (by kernel_rfl) (by kernel_rfl) (fun _ _ _ h => h) (Or.inl ⟨by rfl, ?hy109⟩) (by assumption) ?rest109
              case hy109 => (intro w hSw; (try dsimp only at hSw); simp only [List.getElem_toArray, List.getElem_cons_zero, List.getElem_cons_succ]; go_simp; (try with_reducible rfl))
              (try simp only [Act.put, List.getElem_toArray, List.getElem_cons_zero, List.getElem_cons_succ, List.setIfInBounds_toArray, List.set_cons_zero, List.set_cons_succ])
              refine wpAnyH_ready (rs := [12]) (by kernel_rfl) (by simp) ?_
              refine AllReadyH.cons rfl (fun KK hK => ?_) AllReadyH.nil
              simp only [List.getElem_toArray, List.getElem_cons_zero, List.getElem_cons_succ]
              go_simp
              refine calls_same (HW2.out _) ?_
              go_wp2_with fail
              refine hK.out _ _ ?hS110 (fun hHeld2 => ?rest110)
              case hS110 => exact ⟨u0, u1, u2⟩
              clear hK KK
              (try clear hHeld)
              have hHeld := hHeld2
              clear hHeld2
              (try simp only [Act.put, List.getElem_toArray, List.getElem_cons_zero, List.getElem_cons_succ, List.setIfInBounds_toArray, List.set_cons_zero, List.set_cons_succ])
              refine wpAnyH_take (i := 13) (v := ?v111) rfl (by kernel_rfl) (by kernel_rfl) (by kernel_rfl) (fun _ _ _ h => h) (Or.inl ⟨by rfl, ?hy111⟩) (by assumption) ?rest111
              case hy111 => (intro w hSw; (try dsimp only at hSw); simp only [List.getElem_toArray, List.getElem_cons_zero, List.getElem_cons_succ]; go_simp; (try with_reducible rfl))
              (try simp only [Act.put, List.getElem_toArray, List.getElem_cons_zero, List.getElem_cons_succ, List.setIfInBounds_toArray, List.set_cons_zero, List.set_cons_succ])
              refine wpAnyH_take (i := 14) (v := ?v112) rfl (by kernel_rfl) (by kernel_rfl) (by kernel_rfl) (fun _ _ _ h => h) (Or.inl ⟨by rfl, ?hy112⟩) (by assumption) ?rest112
              case hy112 => (intro w hSw; (try dsimp only at hSw); simp only [List.getElem_toArray, List.getElem_cons_zero, List.getElem_cons_succ]; go_simp; (try with_reducible rfl))
              (try simp only [Act.put, List.getElem_toArray, List.getElem_cons_zero, List.getElem_cons_succ, List.setIfInBounds_toArray, List.set_cons_zero, List.set_cons_succ])
              refine wpAnyH_take (i := 15) (v := ?v113) rfl (by kernel_rfl) (by kernel_rfl) (by kernel_rfl) (fun _ _ _ h => h) (Or.inl ⟨by rfl, ?hy113⟩) (by assumption) ?rest113
              case hy113 => (intro w hSw; (try dsimp only at hSw); simp only [List.getElem_toArray, List.getElem_cons_zero, List.getElem_cons_succ]; go_simp; (try with_reducible rfl))
              (try simp only [Act.put, List.getElem_toArray, List.getElem_cons_zero, List.getElem_cons_succ, List.setIfInBounds_toArray, List.set_cons_zero, List.set_cons_succ])
              refine wpAnyH_take (i := 16) (v := ?v114) rfl (by kernel_rfl) (by kernel_rfl) (by kernel_rfl) (fun _ _ _ h => h) (Or.inl ⟨by rfl, ?hy114⟩) (by assumption) ?rest114
              case hy114 => (intro w hSw; (try dsimp only at hSw); simp only [List.getElem_toArray, List.getElem_cons_zero, List.getElem_cons_succ]; go_simp; (try with_reducible rfl))
              (try simp only [Act.put, List.getElem_toArray, List.getElem_cons_zero, List.getElem_cons_succ, List.setIfInBounds_toArray, List.set_cons_zero, List.set_cons_succ])
              refine wpAnyH_take (i := 17) (v := ?v115) rfl (by kernel_rfl) (by kernel_rfl) (by kernel_rfl) (fun _ _ _ h => h) (Or.inl ⟨by rfl, ?hy115⟩) (by assumption) ?rest115
              case hy115 => (intro w hSw; (try dsimp only at hSw); simp only [List.getElem_toArray, List.getElem_cons_zero, List.getElem_cons_succ]; go_simp; (try with_reducible rfl))
              (try simp only [Act.put, List.getElem_toArray, List.getElem_cons_zero, List.getElem_cons_succ, List.setIfInBounds_toArray, List.set_cons_zero, List.set_cons_succ])
              refine wpAnyH_take (i := 18) (v := ?v116) rfl (by kernel_rfl) (by kernel_rfl) (by kernel_rfl) (fun _ _ _ h => h) (Or.inl ⟨by rfl, ?hy116⟩) (by assumption) ?rest116
              case hy116 => (intro w hSw; (try dsimp only at hSw); simp only [List.getElem_toArray, List.getElem_cons_zero, List.getElem_cons_succ]; go_simp; (try with_reducible rfl))
              (try simp only [Act.put, List.getElem_toArray, List.getElem_cons_zero, List.getElem_cons_succ, List.setIfInBounds_toArray, List.set_cons_zero, List.set_cons_succ])
              refine wpAnyH_take (i := 19) (v := ?v117) rfl (by kernel_rfl) (by kernel_rfl) (by kernel_rfl) (fun _ _ _ h => h) (Or.inl ⟨by rfl, ?hy117⟩) (by assumption) ?rest117
              case hy117 => (intro w hSw; (try dsimp only at hSw); simp only [List.getElem_toArray, List.getElem_cons_zero, List.getElem_cons_succ]; go_simp; (try with_reducible rfl))
              (try simp only [Act.put, List.getElem_toArray, List.getElem_cons_zero, List.getElem_cons_succ, List.setIfInBounds_toArray, List.set_cons_zero, List.set_cons_succ])
              refine wpAnyH_take (i := 20) (v := ?v118) rfl (by kernel_rfl) (by kernel_rfl) (by kernel_rfl) (fun _ _ _ h => h) (Or.inl ⟨by rfl, ?hy118⟩) (by assumption) ?rest118
              case hy118 => (intro w hSw; (try dsimp only at hSw); simp only [List.getElem_toArray, List.getElem_cons_zero, List.getElem_cons_succ]; go_simp; (try with_reducible rfl))
              (try simp only [Act.put, List.getElem_toArray, List.getElem_cons_zero, List.getElem_cons_succ, List.setIfInBounds_toArray, List.set_cons_zero, List.set_cons_succ])
              refine wpAnyH_take (i := 21) (v := undef) rfl (by kernel_rfl) (by kernel_rfl) (by kernel_rfl) (fun _ _ _ h => h) (Or.inr ⟨by rfl, rfl⟩) (by assumption) ?rest119
              (try simp only [Act.put, List.getElem_toArray, List.getElem_cons_zero, List.getElem_cons_succ, List.setIfInBounds_toArray, List.set_cons_zero, List.set_cons_succ])
              refine wpAnyH_take (i := 22) (v := undef) rfl (by kernel_rfl) (by kernel_rfl) (by kernel_rfl) (fun _ _ _ h => h) (Or.inr ⟨by rfl, rfl⟩) (by assumption) ?rest120
              (try simp only [Act.put, List.getElem_toArray, List.getElem_cons_zero, List.getElem_cons_succ, List.setIfInBounds_toArray, List.set_cons_zero, List.set_cons_succ])
              refine wpAnyH_take (i := 23) (v := undef) rfl (by kernel_rfl) (by kernel_rfl) (by kernel_rfl) (fun _ _ _ h => h) (Or.inr ⟨by rfl, rfl⟩) (by assumption) ?rest121
              (try simp only [Act.put, List.getElem_toArray, List.getElem_cons_zero, List.getElem_cons_succ, List.setIfInBounds_toArray, List.set_cons_zero, List.set_cons_succ])
              refine wpAnyH_take (i := 24) (v := undef) rfl (by kernel_rfl) (by kernel_rfl) (by kernel_rfl) (fun _ _ _ h => h) (Or.inr ⟨by rfl, rfl⟩) (by assumption) ?rest122
              (try simp only [Act.put, List.getElem_toArray, List.getElem_cons_zero, List.getElem_cons_succ, List.setIfInBounds_toArray, List.set_cons_zero, List.set_cons_succ])
              refine wpAnyH_take (i := 25) (v := undef) rfl (by kernel_rfl) (by kernel_rfl) (by kernel_rfl) (fun _ _ _ h => h) (Or.inr ⟨by rfl, rfl⟩) (by assumption) ?rest123
              (try simp only [Act.put, List.getElem_toArray, List.getElem_cons_zero, List.getElem_cons_succ, List.setIfInBounds_toArray, List.set_cons_zero, List.set_cons_succ])
              refine wpAnyH_take (i := 26) (v := undef) rfl (by kernel_rfl) (by kernel_rfl) (by kernel_rfl) (fun _ _ _ h => h) (Or.inr ⟨by rfl, rfl⟩) (by assumption) ?rest124
              (try simp only [Act.put, List.getElem_toArray, List.getElem_cons_zero, List.getElem_cons_succ, List.setIfInBounds_toArray, List.set_cons_zero, List.set_cons_succ])
              refine wpAnyH_take (i := 27) (v := undef) rfl (by kernel_rfl) (by kernel_rfl) (by kernel_rfl) (fun _ _ _ h => h) (Or.inr ⟨by rfl, rfl⟩) (by assumption) ?rest125
              (try simp only [Act.put, List.getElem_toArray, List.getElem_cons_zero, List.getElem_cons_succ, List.setIfInBounds_toArray, List.set_cons_zero, List.set_cons_succ])
              refine wpAnyH_take (i := 28) (v := undef) rfl (by kernel_rfl) (by kernel_rfl) (by kernel_rfl) (fun _ _ _ h => h) (Or.inr ⟨by rfl, rfl⟩) (by assumption) ?rest126
              (try simp only [Act.put, List.getElem_toArray, List.getElem_cons_zero, List.getElem_cons_succ, List.setIfInBounds_toArray, List.set_cons_zero, List.set_cons_succ])
              refine wpAnyH_take (i := 29) (v := undef) rfl (by kernel_rfl) (by kernel_rfl) (by kernel_rfl) (fun _ _ _ h => h) (Or.inr ⟨by rfl, rfl⟩) (by assumption) ?rest127
              (try simp only [Act.put, List.getElem_toArray, List.getElem_cons_zero, List.getElem_cons_succ, List.setIfInBounds_toArray, List.set_cons_zero, List.set_cons_succ])
              refine wpAnyH_take (i := 30) (v := undef) rfl (by kernel_rfl) (by kernel_rfl) (by kernel_rfl) (fun _ _ _ h => h) (Or.inr ⟨by rfl, rfl⟩) (by assumption) ?rest128
              (try simp only [Act.put, List.getElem_toArray, List.getElem_cons_zero, List.getElem_cons_succ, List.setIfInBounds_toArray, List.set_cons_zero, List.set_cons_succ])
              refine wpAnyH_take (i := 31) (v := undef) rfl (by kernel_rfl) (by kernel_rfl) (by kernel_rfl) (fun _ _ _ h => h) (Or.inr ⟨by rfl, rfl⟩) (by assumption) ?rest129
              (try simp only [Act.put, List.getElem_toArray, List.getElem_cons_zero, List.getElem_cons_succ, List.setIfInBounds_toArray, List.set_cons_zero, List.set_cons_succ])
              refine wpAnyH_take (i := 32) (v := undef) rfl (by kernel_rfl) (by kernel_rfl) (by kernel_rfl) (fun _ _ _ h => h) (Or.inr ⟨by rfl, rfl⟩) (by assumption) ?rest130
              (try simp only [Act.put, List.getElem_toArray, List.getElem_cons_zero, List.getElem_cons_succ, List.setIfInBounds_toArray, List.set_cons_zero, List.set_cons_succ])
              refine wpAnyH_take (i := 33) (v := undef) rfl (by kernel_rfl) (by kernel_rfl) (by kernel_rfl) (fun _ _ _ h => h) (Or.inr ⟨by rfl, rfl⟩) (by assumption) ?rest131
              (try simp only [Act.put, List.getElem_toArray, List.getElem_cons_zero, List.getElem_cons_succ, List.setIfInBounds_toArray, List.set_cons_zero, List.set_cons_succ])
              refine wpAnyH_take (i := 34) (v := undef) rfl (by kernel_rfl) (by kernel_rfl) (by kernel_rfl) (fun _ _ _ h => h) (Or.inr ⟨by rfl, rfl⟩) (by assumption) ?rest132
              (try simp only [Act.put, List.getElem_toArray, List.getElem_cons_zero, List.getElem_cons_succ, List.setIfInBounds_toArray, List.set_cons_zero, List.set_cons_succ])
              refine wpAnyH_take (i := 35) (v := undef) rfl (by kernel_rfl) (by kernel_rfl) (by kernel_rfl) (fun _ _ _ h => h) (Or.inr ⟨by rfl, rfl⟩) (by assumption) ?rest133
              (try simp only [Act.put, List.getElem_toArray, List.getElem_cons_zero, List.getElem_cons_succ, List.setIfInBounds_toArray, List.set_cons_zero, List.set_cons_succ])
              refine wpAnyH_take (i := 36) (v := undef) rfl (by kernel_rfl) (by kernel_rfl) (by kernel_rfl) (fun _ _ _ h => h) (Or.inr ⟨by rfl, rfl⟩) (by assumption) ?rest134
              (try simp only [Act.put, List.getElem_toArray, List.getElem_cons_zero, List.getElem_cons_succ, List.setIfInBounds_toArray, List.set_cons_zero, List.set_cons_succ])
              refine wpAnyH_take (i := 37) (v := undef) rfl (by kernel_rfl) (by kernel_rfl) (by kernel_rfl) (fun _ _ _ h => h) (Or.inr ⟨by rfl, rfl⟩) (by assumption) ?rest135
              (try simp only [Act.put, List.getElem_toArray, List.getElem_cons_zero, List.getElem_cons_succ, List.setIfInBounds_toArray, List.set_cons_zero, List.set_cons_succ])
              refine wpAnyH_take (i := 38) (v := undef) rfl (by kernel_rfl) (by kernel_rfl) (by kernel_rfl) (fun _ _ _ h => h) (Or.inr ⟨by rfl, rfl⟩) (by assumption) ?rest136
              (try simp only [Act.put, List.getElem_toArray, List.getElem_cons_zero, List.getElem_cons_succ, List.setIfInBounds_toArray, List.set_cons_zero, List.set_cons_succ])
              refine wpAnyH_take (i := 39) (v := undef) rfl (by kernel_rfl) (by kernel_rfl) (by kernel_rfl) (fun _ _ _ h => h) (Or.inr ⟨by rfl, rfl⟩) (by assumption) ?rest137
              (try simp only [Act.put, List.getElem_toArray, List.getElem_cons_zero, List.getElem_cons_succ, List.setIfInBounds_toArray, List.set_cons_zero, List.set_cons_succ])
              refine wpAnyH_take (i := 40) (v := undef) rfl (by kernel_rfl) (by kernel_rfl) (by kernel_rfl) (fun _ _ _ h => h) (Or.inr ⟨by rfl, rfl⟩) (by assumption) ?rest138
              (try simp only [Act.put, List.getElem_toArray, List.getElem_cons_zero, List.getElem_cons_succ, List.setIfInBounds_toArray, List.set_cons_zero, List.set_cons_succ])
              refine wpAnyH_take (i := 41) (v := undef) rfl (by kernel_rfl) (by kernel_rfl) (by kernel_rfl) (fun _ _ _ h => h) (Or.inr ⟨by rfl, rfl⟩) (by assumption) ?rest139
              (try simp only [Act.put, List.getElem_toArray, List.getElem_cons_zero, List.getElem_cons_succ, List.setIfInBounds_toArray, List.set_cons_zero, List.set_cons_succ])
              refine wpAnyH_take (i := 42) (v := undef) rfl (by kernel_rfl) (by kernel_rfl) (by kernel_rfl) (fun _ _ _ h => h) (Or.inr ⟨by rfl, rfl⟩) (by assumption) ?rest140
              (try simp only [Act.put, List.getElem_toArray, List.getElem_cons_zero, List.getElem_cons_succ, List.setIfInBounds_toArray, List.set_cons_zero, List.set_cons_succ])
              refine wpAnyH_take (i := 43) (v := undef) rfl (by kernel_rfl) (by kernel_rfl) (by kernel_rfl) (fun _ _ _ h => h) (Or.inr ⟨by rfl, rfl⟩) (by assumption) ?rest141
              (try simp only [Act.put, List.getElem_toArray, List.getElem_cons_zero, List.getElem_cons_succ, List.setIfInBounds_toArray, List.set_cons_zero, List.set_cons_succ])
              refine wpAnyH_take (i := 44) (v := undef) rfl (by kernel_rfl) (by kernel_rfl) (by kernel_rfl) (fun _ _ _ h => h) (Or.inr ⟨by rfl, rfl⟩) (by assumption) ?rest142
              (try simp only [Act.put, List.getElem_toArray, List.getElem_cons_zero, List.getElem_cons_succ, List.setIfInBounds_toArray, List.set_cons_zero, List.set_cons_succ])
              refine wpAnyH_take (i := 45) (v := ?v143) rfl (by kernel_rfl) (by kernel_rfl) (by kernel_rfl) (fun _ _ _ h => h) (Or.inl ⟨by rfl, ?hy143⟩) (by assumption) ?rest143
              case hy143 => (intro w hSw; (try dsimp only at hSw); simp only [List.getElem_toArray, List.getElem_cons_zero, List.getElem_cons_succ]; go_simp; (try with_reducible rfl))
              (try simp only [Act.put, List.getElem_toArray, List.getElem_cons_zero, List.getElem_cons_succ, List.setIfInBounds_toArray, List.set_cons_zero, List.set_cons_succ])
              refine wpAnyH_take (i := 46) (v := ?v144) rfl (by kernel_rfl) (by kernel_rfl) (by kernel_rfl) (fun _ _ _ h => h) (Or.inl ⟨by rfl, ?hy144⟩) (by assumption) ?rest144
              case hy144 => (intro w hSw; (try dsimp only at hSw); simp only [List.getElem_toArray, List.getElem_cons_zero, List.getElem_cons_succ]; go_simp; (try with_reducible rfl))
              (try simp only [Act.put, List.getElem_toArray, List.getElem_cons_zero, List.getElem_cons_succ, List.setIfInBounds_toArray, List.set_cons_zero, List.set_cons_succ])
              refine wpAnyH_done (by kernel_rfl) ?_ _
              clear hHeld
              go_wp2_with fail
              go_roundw
              case rel => exact ⟨i + 1, by omega, by go_num, HOF.out.drew⟩
              case measure => simp [intOf]; omega
            · have hpe : (setC S r j) i = S i := by unfold setC; rw [if_neg (by omega)]
              rw [hpe] at hp
              obtain ⟨q0, q1, q2⟩ := HWs.out.at hi
              rw [hp] at q0 q1 q2
              clear hp hpe
              have HQ0 := hid_mk q0
              have HQ1 := hid_mk q1
              have HQ2 := hid_mk q2
              clear q0 q1 q2
              have z1 : (x != x) = false := by simp
              have z2 : (y != y) = false := by simp
              have z3 : (t != t) = false := by simp
              by_cases hlo : i < r
              · have b2 : (i : Int) < (r : Int) := by omega
                clear hin hlo
                go_wp2_with (go_at_call 22; refine HS.out.mono ?_; rintro e wE ⟨rfl, hE⟩; have HOE := hid_mk hE; have q0 := (hE.alloc (.cells #[.int .i64 x, .int .i64 y, .int .i64 t] 45)).cell HQ0.out (.inr (Nat.zero_le _)); have q1 := (hE.alloc (.cells #[.int .i64 x, .int .i64 y, .int .i64 t] 45)).cell HQ1.out (.inr (Nat.zero_le _)); have q2 := (hE.alloc (.cells #[.int .i64 x, .int .i64 y, .int .i64 t] 45)).cell HQ2.out (.inr (Nat.zero_le _)); obtain ⟨u0, u1, u2⟩ := box3 (heap_alloc_new wE (.cells #[.int .i64 x, .int .i64 y, .int .i64 t] 45)); clear hE)
                go_region
                all_goals go_wp2
                all_goals go_roundw
                all_goals first | exact ⟨i + 1, by omega, by go_num, ((HO.out.trans HOE.out).alloc _).drew⟩ | (simp [intOf]; omega)
              · have b2 : (r : Int) ≤ (i : Int) := by omega
                have b3 : (r : Int) + (1 : Int) ≤ (i : Int) := by omega
                clear hin hlo
                go_wp2_with (go_at_call 22; refine HS.out.mono ?_; rintro e wE ⟨rfl, hE⟩; have HOE := hid_mk hE; have q0 := (hE.alloc (.cells #[.int .i64 x, .int .i64 y, .int .i64 t] 45)).cell HQ0.out (.inr (Nat.zero_le _)); have q1 := (hE.alloc (.cells #[.int .i64 x, .int .i64 y, .int .i64 t] 45)).cell HQ1.out (.inr (Nat.zero_le _)); have q2 := (hE.alloc (.cells #[.int .i64 x, .int .i64 y, .int .i64 t] 45)).cell HQ2.out (.inr (Nat.zero_le _)); obtain ⟨u0, u1, u2⟩ := box3 (heap_alloc_new wE (.cells #[.int .i64 x, .int .i64 y, .int .i64 t] 45)); clear hE)
                go_region
                all_goals go_wp2
                all_goals go_roundw
                all_goals first | exact ⟨i + 1, by omega, by go_num, ((HO.out.trans HOE.out).alloc _).drew⟩ | (simp [intOf]; omega)
          · have : N = i := by omega
            subst this
            clear ho hi
            go_wp2
            go_ret
            exact ⟨rfl, (HOD.out.trans HO.out).all⟩
end Go.Proofs.YtfkmaanfgkkjcaaDoor
