import Derived.Test.YtjbbkeoolodeaabDoorNp
import Derived.Test.YtjbbkeoolodeaabDoorNg
import Derived.Test.YtjbbkeoolodeaabDoorNl
namespace Go.Proofs.YtjbbkeoolodeaabDoor
open Go.RowKit
set_option linter.unusedVariables false
set_option linter.unusedSimpArgs false

theorem eq_nilSm (W : World) (a : Addr) (n c : Nat) : (binOp .eql 27 (.slice (some a) n c) (.slice none 0 0)).run Tryd.prog W = .ok (.bool false) W := by kernel_rfl
set_option maxRecDepth 100000 in
set_option maxHeartbeats 16000000 in
theorem low_any {w : World} (hT : Tab w) (n0 : Int) (hn : -9223372036854775808 ≤ n0 ∧ n0 ≤ 9223372036854775807) {os : List OpQ} {p : Option Addr} {cp : Nat} (hS : ScrAt w w.heap.size p os) (kd pt : Int) (hpt : -9223372036854775808 ≤ pt ∧ pt ≤ 9223372036854775807) :
    Calls Tryd.prog 4 #[.int .i64 n0, .slice p os.length cp, .int .i64 kd, .int .i64 pt] w fun e w' => e = .returned (.bool true) ∧ Out 0 0 w w' := by
  have HAl := hid_mk (fun w' (hT' : Tab w') => alive_any hT')
  have HT := hid_mk hT
  have HS := hid_mk hS
  obtain ⟨m, hm, hm2⟩ := wth_nat n0 12 (by decide)
  obtain ⟨N, hN⟩ : ∃ N : Nat, 1 + wth n0 12 = (N : Int) := ⟨1 + m, by rw [hm]; push_cast; rfl⟩
  have HN : Hid (1 ≤ N ∧ N ≤ 12) := by show _ ∧ _; omega
  have HBg := hid_mk (begun_any hT n0 hn.1 hn.2 hN)
  clear hT hS hn hm hm2 hN m
  go_enter Tryd.func4, Tryd.ntmps4
  go_wp2_with fail
  refine HBg.out.mono ?_
  rintro e w1 ⟨b, lo, hi, s, cap, rfl, hw1, hs1, hb1, hl1, ho1⟩
  have H1 := hid_mk (And.intro hw1 (And.intro hs1 (And.intro hb1 (And.intro hl1 ho1))))
  have HA1 := hid_mk (HAl.out _ (HT.out.quiet ho1))
  clear hw1 hs1 hb1 hl1 ho1 HBg
  go_wp2_with fail
  refine HA1.out.mono ?_
  rintro e w2 ⟨rfl, ho2⟩
  have HO2 := hid_mk (H1.out.2.2.2.2.trans ho2)
  have HSm := hid_mk (fun w' (o : Out 0 0 w w') => small_at (cp := cp) (HS.out.kept o (.inr rfl)))
  have HA2 := hid_mk (fun w' (o : Out 0 0 w w') => HAl.out _ (HT.out.quiet o))
  have H2 := hid_mk (And.intro (H1.out.1.kept ho2 (.inr (Nat.zero_le _))) (And.intro (H1.out.2.1.quiet ho2) (And.intro H1.out.2.2.1 H1.out.2.2.2.1)))
  clear ho2 H1 HA1 HAl
  go_wp2_with fail
  refine (HSm.out _ HO2.out).mono ?_
  rintro e wx ⟨hwx, rfl⟩
  rw [hwx]
  clear hwx wx
  cases hr : smB os with
  | false =>
    rw [hr] at HSm
    clear hr
    go_wp2_with fail
    refine (HA2.out _ HO2.out).mono ?_
    rintro e w3 ⟨rfl, ho3⟩
    have HO3 := hid_mk (HO2.out.trans ho3)
    clear ho3
    go_wp2_with fail
    refine (HSm.out _ HO3.out).mono ?_
    rintro e wx ⟨hwx, rfl⟩
    rw [hwx]
    clear hwx wx
    go_wp2_with fail
    go_ret
    exact ⟨rfl, HO3.out⟩
  | true =>
    have HR := hid_mk (smB_all hr)
    clear hr
    have hq := H2.out
    have hst := wst_new hq.2.2.2 (by have := HT.out.lt; omega) hq.2.1 hq.1
    have hsc := (HS.out.kept HO2.out (.inr rfl)).mono (b' := b) hq.2.2.1
    have HP := hid_mk (played_any (cp := cp) hst HN.out.2 (Int.le_refl 0) hsc HR.out hq.1.lt)
    have HQ := hid_mk hq.2.2.1
    clear hq hst hsc H2 HA2 HSm
    go_wp2_with fail
    refine HP.out.mono ?_
    rintro e w3 ⟨rfl, hst3⟩
    obtain ⟨⟨st, l⟩, hF⟩ : ∃ q, plP N (newSp, []) os (min os.length 120) = q := ⟨_, rfl⟩
    rw [hF] at hst3
    have hlF := pl_last N (newSp, []) os (min os.length 120)
    rw [hF] at hlF
    have HLF : Hid (st.last ≤ 120) := by
      have : st.last ≤ 0 + ((min os.length 120 : Nat) : Int) := hlF
      show st.last ≤ 120
      omega
    have HO3 := hid_mk (HO2.out.past hst3.2.1 HQ.out)
    have HW := hid_mk (owner_any hst3 HN.out.2)
    have H3 := hid_mk hst3
    clear hst3 hlF HP
    go_wp2_with fail
    refine HW.out.mono ?_
    rintro e w4 ⟨rfl, _, ho4⟩
    -- the world stands in w4
    have hst4 := H3.out.quiet ho4
    have HO4 := hid_mk (HO3.out.trans ho4)
    have HSt := hid_mk hst4
    have HI := hid_mk (And.intro hst4.2.2.1.2 (And.intro hst4.2.2.2.1 hst4.2.2.2.2.1))
    obtain ⟨y, hy⟩ : ∃ y, wth pt 1024 = y := ⟨_, rfl⟩
    have y0 := wth_ge pt 1024 (by decide)
    have y1 := wth_lt pt 1024 (by decide)
    have HWt := hid_mk (fun w' => within_any pt 1024 w' hpt.1 hpt.2 (by decide) (by decide))
    rw [hy] at y0 y1 HWt
    obtain ⟨z, hz⟩ : ∃ z, 1 + y = z := ⟨_, rfl⟩
    have z1 : 1 ≤ z := by omega
    have z2 : z ≤ 1024 := by omega
    obtain ⟨c, rm, bl, k, hcl, k1, k2, hcase⟩ := cls_need (n := N) (st := st) z1 z2
    have HC := hid_mk (classOf_any (HT.out.quiet HO4.out) z z1 z2 hcl)
    have HCase := hid_mk hcase
    have HK := hid_mk (And.intro k1 k2)
    have HZ := hid_mk (And.intro z1 z2)
    clear ho4 HW H3 hst4 hcl hcase k1 k2 hy hpt z1 z2
    have heq := eq_nilSm
    go_wp2_with fail
    refine (HWt.out _).mono ?_
    rintro e wx ⟨rfl, hwx⟩
    rw [hwx]
    clear hwx wx HWt heq
    go_wp2_with fail
    refine HC.out.mono ?_
    rintro e w5 ⟨rfl, ho5⟩
    have HS5 := hid_mk (HSt.out.quiet ho5)
    have HO5 := hid_mk (HO4.out.trans ho5)
    have HDp := hid_mk (dumpF HS5.out.2.2.1)
    obtain ⟨v5, c5, _⟩ := HS5.out.2.2.2.2.2
    have c1 := c5.cells.2.1
    clear ho5 c5 HSt HC HO4
    go_wp2_with fail
    refine HDp.out.mono ?_
    rintro e w6 ⟨zo2, gw, gp, zc0, zc1, zc2, k0, k1, k2, k3, k4, k5, k6, k7, rfl, hg1, hg2, hg3, hg4, hw4, hp4, ho6⟩
    have H6 := hid_mk (And.intro hg2 (And.intro hg4 (And.intro hp4 ho6)))
    obtain ⟨q, hq⟩ : ∃ q, (objsTo (rawOf N st) (64 * N)).length = q := ⟨_, rfl⟩
    obtain ⟨M, hM⟩ : ∃ M, 64 * N = M := ⟨_, rfl⟩
    rw [hq, hM]
    clear hg1 hg2 hg3 hg4 hw4 hp4 ho6 HDp c1 hq
    go_wp2_with fail
    obtain ⟨W7, hW7⟩ : ∃ W, w6.alloc (.cells #[.slice (some ⟨gw, 0, none⟩) M zc0, .slice (some ⟨gp, 0, none⟩) N zc1, .slice zo2 q zc2, .int .i64 k0, .int .i64 k1, .int .i64 k2, .int .i64 k3, .int .i64 k4, .int .i64 k5, .int .i64 k6, .int .i64 k7, .int .i64 st.last] 46) = W := ⟨_, rfl⟩
    obtain ⟨D, hD⟩ : ∃ D, w6.heap.size = D := ⟨_, rfl⟩
    have o7 : Out 0 0 w6 W7 := by rw [← hW7]; exact (Out.refl 0 0 w6).alloc _
    have fD : W7.heap[D]? = some (.cells #[.slice (some ⟨gw, 0, none⟩) M zc0, .slice (some ⟨gp, 0, none⟩) N zc1, .slice zo2 q zc2, .int .i64 k0, .int .i64 k1, .int .i64 k2, .int .i64 k3, .int .i64 k4, .int .i64 k5, .int .i64 k6, .int .i64 k7, .int .i64 st.last] 46 (0, 0)) := by rw [← hW7, ← hD]; exact heap_alloc_new _ _
    have dP : W7.cell? ⟨D, 1, none⟩ = some (.slice (some ⟨gp, 0, none⟩) N zc1) := by simp [World.cell?, fD]
    have oa := H6.out.2.2.2.trans o7
    have HS7 := hid_mk (HS5.out.quiet oa)
    have HO7 := hid_mk (HO5.out.trans oa)
    have HPg := hid_mk (fun j (hj : j < N) => o7.cell (H6.out.2.2.1 j 0 hj (by omega)) (.inr (Nat.zero_le _)))
    have c0 : W7.cell? ⟨b, 0, none⟩ = some (.int .i64 (N : Int)) := by
      obtain ⟨v7, c7, _⟩ := HS7.out.2.2.2.2.2
      exact c7.cells.1
    have HDP := hid_mk dP
    rw [hW7]
    (try rw [hD])
    clear hW7 o7 fD oa H6 HS5 HO5 hD hM
    have n0' : (1 : Int) ≤ (N : Int) := by have := HN.out; omega
    have n1' : (N : Int) ≤ 12 := by have := HN.out; omega
    refine wp_region_held_drew (S := fun w' => w'.cell? ⟨D, 1, none⟩ = some (.slice (some ⟨gp, 0, none⟩) N zc1) ∧ w'.cell? ⟨b, 0, none⟩ = some (.int .i64 (N : Int))) (by kernel_rfl) ?hS1 (fun hHeld => ?rest1)
    case hS1 => exact ⟨dP, c0⟩
    obtain ⟨Z8, hZ⟩ : ∃ Z, W7.drew = Z := ⟨_, rfl⟩
    have OZ8 : Out 0 0 W7 Z8 := by rw [← hZ]; exact (Out.refl 0 0 W7).drew
    rw [hZ] at hHeld ⊢
    clear hZ
    refine wpAnyH_take (i := 0) (v := ?v2) rfl (by kernel_rfl) (by kernel_rfl) (by kernel_rfl) (fun _ _ _ h => h) (Or.inl ⟨by rfl, ?hy2⟩) (by assumption) ?rest2
    case hy2 => (intro w hSw; (try dsimp only at hSw); simp only [List.getElem_toArray, List.getElem_cons_zero, List.getElem_cons_succ]; go_simp; (try with_reducible rfl))
    (try simp only [Act.put, List.getElem_toArray, List.getElem_cons_zero, List.getElem_cons_succ, List.setIfInBounds_toArray, List.set_cons_zero, List.set_cons_succ])
    refine wpAnyH_take (i := 1) (v := ?v3) rfl (by kernel_rfl) (by kernel_rfl) (by kernel_rfl) (fun _ _ _ h => h) (Or.inl ⟨by rfl, ?hy3⟩) (by assumption) ?rest3
    case hy3 => (intro w hSw; (try dsimp only at hSw); simp only [List.getElem_toArray, List.getElem_cons_zero, List.getElem_cons_succ]; go_simp; (try with_reducible rfl))
    (try simp only [Act.put, List.getElem_toArray, List.getElem_cons_zero, List.getElem_cons_succ, List.setIfInBounds_toArray, List.set_cons_zero, List.set_cons_succ])
    refine wpAnyH_take (i := 2) (v := ?v4) rfl (by kernel_rfl) (by kernel_rfl) (by kernel_rfl) (fun _ _ _ h => h) (Or.inl ⟨by rfl, ?hy4⟩) (by assumption) ?rest4
    case hy4 => (intro w hSw; (try dsimp only at hSw); simp only [List.getElem_toArray, List.getElem_cons_zero, List.getElem_cons_succ]; go_simp; (try with_reducible rfl))
    (try simp only [Act.put, List.getElem_toArray, List.getElem_cons_zero, List.getElem_cons_succ, List.setIfInBounds_toArray, List.set_cons_zero, List.set_cons_succ])
    refine wpAnyH_take (i := 3) (v := ?v5) rfl (by kernel_rfl) (by kernel_rfl) (by kernel_rfl) (fun _ _ _ h => h) (Or.inl ⟨by rfl, ?hy5⟩) (by assumption) ?rest5
    case hy5 => (intro w hSw; (try dsimp only at hSw); simp only [List.getElem_toArray, List.getElem_cons_zero, List.getElem_cons_succ]; go_simp; (try with_reducible rfl))
    (try simp only [Act.put, List.getElem_toArray, List.getElem_cons_zero, List.getElem_cons_succ, List.setIfInBounds_toArray, List.set_cons_zero, List.set_cons_succ])
    refine wpAnyH_take (i := 4) (v := ?v6) rfl (by kernel_rfl) (by kernel_rfl) (by kernel_rfl) (fun _ _ _ h => h) (Or.inl ⟨by rfl, ?hy6⟩) (by assumption) ?rest6
    case hy6 => (intro w hSw; (try dsimp only at hSw); simp only [List.getElem_toArray, List.getElem_cons_zero, List.getElem_cons_succ]; go_simp; (try with_reducible rfl))
    (try simp only [Act.put, List.getElem_toArray, List.getElem_cons_zero, List.getElem_cons_succ, List.setIfInBounds_toArray, List.set_cons_zero, List.set_cons_succ])
    refine wpAnyH_take (i := 5) (v := ?v7) rfl (by kernel_rfl) (by kernel_rfl) (by kernel_rfl) (fun _ _ _ h => h) (Or.inl ⟨by rfl, ?hy7⟩) (by assumption) ?rest7
    case hy7 => (intro w hSw; (try dsimp only at hSw); simp only [List.getElem_toArray, List.getElem_cons_zero, List.getElem_cons_succ]; go_simp; (try with_reducible rfl))
    (try simp only [Act.put, List.getElem_toArray, List.getElem_cons_zero, List.getElem_cons_succ, List.setIfInBounds_toArray, List.set_cons_zero, List.set_cons_succ])
    refine wpAnyH_take (i := 6) (v := ?v8) rfl (by kernel_rfl) (by kernel_rfl) (by kernel_rfl) (fun _ _ _ h => h) (Or.inl ⟨by rfl, ?hy8⟩) (by assumption) ?rest8
    case hy8 => (intro w hSw; (try dsimp only at hSw); simp only [List.getElem_toArray, List.getElem_cons_zero, List.getElem_cons_succ]; go_simp; (try with_reducible rfl))
    (try simp only [Act.put, List.getElem_toArray, List.getElem_cons_zero, List.getElem_cons_succ, List.setIfInBounds_toArray, List.set_cons_zero, List.set_cons_succ])
    refine wpAnyH_take (i := 7) (v := ?v9) rfl (by kernel_rfl) (by kernel_rfl) (by kernel_rfl) (fun _ _ _ h => h) (Or.inl ⟨by rfl, ?hy9⟩) (by assumption) ?rest9
    case hy9 => (intro w hSw; (try dsimp only at hSw); simp only [List.getElem_toArray, List.getElem_cons_zero, List.getElem_cons_succ]; go_simp; (try with_reducible rfl))
    (try simp only [Act.put, List.getElem_toArray, List.getElem_cons_zero, List.getElem_cons_succ, List.setIfInBounds_toArray, List.set_cons_zero, List.set_cons_succ])
    refine wpAnyH_done (by kernel_rfl) ?_ _
    clear hHeld
    have HO8 := hid_mk OZ8
    have HS8 := hid_mk (HS7.out.quiet OZ8)
    clear OZ8 c0 dP HS7
    rcases HCase.out with ⟨z3, ec, c0', c7', rfl, hpl⟩ | ⟨z3, rfl, hrm, hpl⟩
    · obtain ⟨ck, rfl⟩ : ∃ ck : Nat, c = (ck : Int) := ⟨c.toNat, by omega⟩
      have hck : ck < 8 := by omega
      have c8' : (ck : Int) < 8 := by omega
      have c9' : ¬ ((ck : Int) = 8) := by omega
      have c10' : ((ck : Int) == 8) = false := by simpa using c9'
      clear z3 ec HCase
      have HF1 := hid_mk (firsts_at HS8.out HN.out.2 hck)
      go_wp2_with fail
      refine HF1.out.mono ?_
      rintro e w9 ⟨cs, so, scp, rfl, hcs, hce, ho9⟩
      have hidx := index88 cs ck _ hck hcs
      clear HF1
      by_cases hnf : nf N st (ck : Int) 0 = -1
      · have hl0 := frL_none hnf
        rw [hl0] at hidx
        simp only [List.length_nil] at hidx
        rw [hnf, if_neg (by decide)] at hpl
        have HO9 := hid_mk (HO8.out.trans ho9)
        have HS9 := hid_mk (HS8.out.quiet ho9)
        have HPl := hid_mk hpl
        obtain ⟨vx, cx, _⟩ := HS9.out.2.2.2.2.2
        have c0 := cx.cells.1
        have HOc := hid_mk HO9.out
        have HO9f := hid_mk (HO7.out.trans HO9.out)
        clear hcs hce ho9 hnf hl0 hpl HS8 cx
        go_wp2_with fail
        clear hidx c0
        go_loopw [15, 17] (fun v u wr => ∃ vv yy : Int, v = .int .i64 vv ∧ u = .int .i64 yy ∧ yy ≤ (N : Int) - (1 : Int) ∧ LowInv st.S N 1 yy vv ∧ wr = w9) (fun _ u _ => (intOf u + 1).toNat)
        case atStart => exact ⟨-1, _, rfl, rfl, Int.le_refl _, low_start _ _ _, rfl⟩
        case round =>
          obtain ⟨vv, yy, rfl, rfl, y1, hLo, hwr⟩ := hrel
          subst hwr
          by_cases hy : 0 ≤ yy
          · obtain ⟨yn, rfl⟩ : ∃ yn : Nat, yy = (yn : Int) := ⟨yy.toNat, by omega⟩
            obtain ⟨Y, hY⟩ : ∃ Y : Nat, (64 : Int) * (yn : Int) = (Y : Int) := ⟨64 * yn, by omega⟩
            have Y0 : (0 : Int) ≤ (Y : Int) := by omega
            have Y1 : (Y : Int) ≤ 768 := by omega
            have HLo := hid_mk hLo
            rcases hLo with ⟨e, _⟩ | ⟨q, e, q1, q2, q3, q4⟩
            · subst e
              go_wp2_with fail
              go_loopw [18, 19] (fun f u wq => ∃ i : Nat, f = .bool (allF st.S yn i) ∧ u = .int .i64 (i : Int) ∧ i ≤ 1 ∧ wq = wr) (fun _ u _ => 1 - (intOf u).toNat)
              case atStart => exact ⟨0, rfl, rfl, Nat.zero_le _, rfl⟩
              case round =>
                obtain ⟨i, rfl, rfl, i1, hwq⟩ := hrel
                subst hwq
                have i0 : (0 : Int) ≤ (i : Int) := by omega
                by_cases hi : i < 1
                · have i2 : (i : Int) < (1 : Int) := by omega
                  cases haf : allF st.S yn i with
                  | false =>
                    go_wp2_with fail
                    exact ⟨⟨i + 1, by rw [allF_succ, haf]; rfl, by congr 1, by omega, by trivial⟩, by simp [intOf] <;> omega⟩
                  | true =>
                    obtain ⟨x, hx⟩ : ∃ x, yn + i = x := ⟨_, rfl⟩
                    have x0 : (yn : Int) + (i : Int) = (x : Int) := by omega
                    have x1 : (0 : Int) ≤ (x : Int) := by omega
                    have x2 : (x : Int) < (N : Int) := by omega
                    have dP := HOc.out.cell HDP.out (.inr (Nat.zero_le _))
                    have dK := HOc.out.cell (HPg.out x (by omega)) (.inr (Nat.zero_le _))
                    obtain ⟨kk, hkk⟩ : ∃ kk, (st.S x).1 = kk := ⟨_, rfl⟩
                    rw [fP_0, Nat.add_zero, hkk] at dK
                    have hfb : freeB (st.S (yn + i)) = decide (kk = 0) := by unfold freeB; rw [hx, hkk]; by_cases e : kk = 0 <;> simp [e]
                    have HFb := hid_mk (And.intro haf hfb)
                    clear haf hfb hx hkk
                    by_cases hk0 : kk = 0
                    · go_wp2_with fail
                      exact ⟨⟨i + 1, by rw [allF_succ, HFb.out.1, HFb.out.2]; simp [hk0], by congr 1, by omega, by trivial⟩, by simp [intOf] <;> omega⟩
                    · go_wp2_with fail
                      exact ⟨⟨i + 1, by rw [allF_succ, HFb.out.1, HFb.out.2]; simp [hk0], by congr 1, by omega, by trivial⟩, by simp [intOf] <;> omega⟩
                · have e : i = 1 := by omega
                  subst e
                  cases haf : allF st.S yn 1 with
                  | true =>
                    have HLY := hid_mk (low_yes HLo.out (by omega) haf)
                    clear haf
                    go_wp2_with fail
                    refine ⟨⟨((64 * yn : Nat) : Int), (yn : Int) - 1, by congr 1; omega, rfl, by omega, HLY.out, by trivial⟩, by simp [intOf] <;> omega⟩
                  | false =>
                    have HLY := hid_mk (low_no HLo.out haf)
                    clear haf
                    go_wp2_with fail
                    refine ⟨⟨_, (yn : Int) - 1, rfl, rfl, by omega, HLY.out, by trivial⟩, by simp [intOf] <;> omega⟩
            · obtain ⟨Q, hQ⟩ : ∃ Q, 64 * q = Q := ⟨_, rfl⟩
              rw [hQ] at e
              subst e
              have s0 : (0 : Int) ≤ (Q : Int) := by omega
              have s6 : (Q : Int) ≤ 768 := by omega
              have s1 : (Q : Int) % 64 = 0 := by omega
              have s2 : (Y : Int) ≤ (Q : Int) := by omega
              have s3 : (Q : Int) / 64 = (q : Int) := by omega
              have s4 : (0 : Int) ≤ (q : Int) := by omega
              have hk1 : 1 ≤ 1 := by omega
              have s5 : (q : Int) < (N : Int) := by omega
              have dP := HOc.out.cell HDP.out (.inr (Nat.zero_le _))
              have dK := HOc.out.cell (HPg.out q (by omega)) (.inr (Nat.zero_le _))
              have hf := allF_iff.1 q3 q (Nat.le_refl _) (by omega)
              have hf0 : (st.S q).1 = 0 := by unfold freeB at hf; simpa using hf
              rw [fP_0, Nat.add_zero, hf0] at dK
              clear q3 q4 hf hf0 q1 q2 hk1 hQ
              go_wp2_with fail
              clear dP dK
              go_loopw [18, 19] (fun f u wq => ∃ i : Nat, f = .bool (allF st.S yn i) ∧ u = .int .i64 (i : Int) ∧ i ≤ 1 ∧ wq = wr) (fun _ u _ => 1 - (intOf u).toNat)
              case atStart => exact ⟨0, rfl, rfl, Nat.zero_le _, rfl⟩
              case round =>
                obtain ⟨i, rfl, rfl, i1, hwq⟩ := hrel
                subst hwq
                have i0 : (0 : Int) ≤ (i : Int) := by omega
                by_cases hi : i < 1
                · have i2 : (i : Int) < (1 : Int) := by omega
                  cases haf : allF st.S yn i with
                  | false =>
                    go_wp2_with fail
                    exact ⟨⟨i + 1, by rw [allF_succ, haf]; rfl, by congr 1, by omega, by trivial⟩, by simp [intOf] <;> omega⟩
                  | true =>
                    obtain ⟨x, hx⟩ : ∃ x, yn + i = x := ⟨_, rfl⟩
                    have x0 : (yn : Int) + (i : Int) = (x : Int) := by omega
                    have x1 : (0 : Int) ≤ (x : Int) := by omega
                    have x2 : (x : Int) < (N : Int) := by omega
                    have dP := HOc.out.cell HDP.out (.inr (Nat.zero_le _))
                    have dK := HOc.out.cell (HPg.out x (by omega)) (.inr (Nat.zero_le _))
                    obtain ⟨kk, hkk⟩ : ∃ kk, (st.S x).1 = kk := ⟨_, rfl⟩
                    rw [fP_0, Nat.add_zero, hkk] at dK
                    have hfb : freeB (st.S (yn + i)) = decide (kk = 0) := by unfold freeB; rw [hx, hkk]; by_cases e : kk = 0 <;> simp [e]
                    have HFb := hid_mk (And.intro haf hfb)
                    clear haf hfb hx hkk
                    by_cases hk0 : kk = 0
                    · go_wp2_with fail
                      exact ⟨⟨i + 1, by rw [allF_succ, HFb.out.1, HFb.out.2]; simp [hk0], by congr 1, by omega, by trivial⟩, by simp [intOf] <;> omega⟩
                    · go_wp2_with fail
                      exact ⟨⟨i + 1, by rw [allF_succ, HFb.out.1, HFb.out.2]; simp [hk0], by congr 1, by omega, by trivial⟩, by simp [intOf] <;> omega⟩
                · have e : i = 1 := by omega
                  subst e
                  cases haf : allF st.S yn 1 with
                  | true =>
                    have HLY := hid_mk (low_yes HLo.out (by omega) haf)
                    clear haf
                    go_wp2_with fail
                    refine ⟨⟨((64 * yn : Nat) : Int), (yn : Int) - 1, by congr 1; omega, rfl, by omega, HLY.out, by trivial⟩, by simp [intOf] <;> omega⟩
                  | false =>
                    have HLY := hid_mk (low_no HLo.out haf)
                    clear haf
                    go_wp2_with fail
                    refine ⟨⟨_, (yn : Int) - 1, rfl, rfl, by omega, HLY.out, by trivial⟩, by simp [intOf] <;> omega⟩
          · have hk1 : 1 ≤ 1 := by omega
            rcases low_end hk1 (by omega) hLo with ⟨e, hro⟩ | ⟨q, e, hro⟩
            · subst e
              have hpl := HPl.out
              rw [hro] at hpl
              have HPl2 := hid_mk hpl
              clear hpl hro hLo
              have hal := al_right (t := kd) HI.out.1 HI.out.2.1 (fits3 HZ.out.1 HZ.out.2)
              rw [HPl2.out] at hal
              rcases hal with ⟨_, ha2⟩ | ⟨a', fr', hal, _⟩
              case inr => cases hal
              have HAl := hid_mk (alloc_is HS9.out.2.2.1 (by have := HZ.out; omega) (by have := HZ.out; omega) (by have := HLF.out; omega) ha2)
              have hb1 := HS9.out.1
              obtain ⟨vx, cx, _⟩ := HS9.out.2.2.2.2.2
              have c1 := cx.cells.2.1
              clear cx ha2
              go_wp2_with fail
              refine HAl.out.mono ?_
              rintro e w11 ⟨rfl, hs11, ho11⟩
              have HO11 := hid_mk (HO9f.out.past ho11 (by have := HQ.out; omega))
              clear hs11 ho11 c1 HAl
              go_wp2
              go_ret
              exact ⟨rfl, HO11.out.trans ((Out.refl 0 0 _).alloc _)⟩
            · obtain ⟨A, hA⟩ : ∃ A, 64 * q = A := ⟨_, rfl⟩
              obtain ⟨FR, hFR⟩ : ∃ FR, true = FR := ⟨_, rfl⟩
              have hpl := HPl.out
              rw [hro] at hpl
              replace hpl : placeF N st z = some (64 * q, true) := hpl
              rw [hFR, hA] at hpl
              rw [hA] at e
              subst e
              have HPl2 := hid_mk hpl
              clear hpl hFR hro hLo
              have hal := al_right (t := kd) HI.out.1 HI.out.2.1 (fits3 HZ.out.1 HZ.out.2)
              rw [HPl2.out] at hal
              rcases hal with ⟨hal, _⟩ | ⟨a', fr', hal, ha2, ha3, ha4, ha5, ha6, ha7⟩
              · cases hal
              injection hal with hal
              obtain ⟨rfl, rfl⟩ : A = a' ∧ FR = fr' := by injection hal with h1 h2; exact ⟨h1, h2⟩
              clear hal
              obtain ⟨st2, hst2⟩ : ∃ q, takeF N st A FR 3 z kd = q := ⟨_, rfl⟩
              obtain ⟨x, hx⟩ : ∃ x, st.last + 1 = x := ⟨_, rfl⟩
              have hsr : serOf st 3 = x := hx
              have hO2 : st2.O A = (3, z, x, kd) := by rw [← hst2, takeF_O, putO_self, hsr]
              rw [hst2] at ha2 ha3
              have hM : (rawOf N st2).M (A : Int) = some (3, z, x, kd) := by
                show obM st2 (A : Int) = _
                unfold obM
                rw [show ((A : Int)).toNat = A from by omega, hO2, if_pos ⟨by omega, rfl⟩]
              have HAl := hid_mk (alloc_is HS9.out.2.2.1 (by have := HZ.out; omega) (by have := HZ.out; omega) (by have := HLF.out; omega) ha2)
              have hb1 := HS9.out.1
              obtain ⟨vx, cx, _⟩ := HS9.out.2.2.2.2.2
              have c1 := cx.cells.2.1
              have HCx := hid_mk cx
              have HM := hid_mk hM
              have L0 : (0 : Int) ≤ st.last := HI.out.1.last0
              have L1 : st.last ≤ 120 := HLF.out
              have x0 : (0 : Int) ≤ x := by omega
              have x1 : x ≤ 121 := by omega
              have hwx : IntKind.i64.wrap x = x := by simp [IntKind.wrap, IntKind.signed, IntKind.bits]; omega
              have A0 : (0 : Int) ≤ (A : Int) := by omega
              clear hst2 hsr hO2 hM ha2 ha3 ha4 ha5 ha6 ha7 cx
              go_wp2_with fail
              refine HAl.out.mono ?_
              rintro e w11 ⟨rfl, hs11, ho11⟩
              have oA : Out 0 0 w11 (w11.alloc (.cells #[.int .i64 0, .int .i64 0] 57)) := (Out.refl 0 0 w11).alloc _
              clear c1
              have c1 := ((HCx.out.kept ho11 (.inl hb1.1)).kept oA (.inr (Nat.zero_le _))).cells.2.1
              have HBk := hid_mk (block_some (hs11.quiet oA).1 HM.out)
              have HO11 := hid_mk (HO9f.out.past ho11 (by have := HQ.out; omega))
              have HC11 := hid_mk (HCx.out.kept ho11 (.inl hb1.1))
              clear hs11 oA HAl ho11
              go_wp2_with fail
              refine HBk.out.mono ?_
              rintro e w12 ⟨rfl, ho12⟩
              obtain ⟨W12, hW12⟩ : ∃ W, w11.alloc (.cells #[.int .i64 0, .int .i64 0] 57) = W := ⟨_, rfl⟩
              obtain ⟨F, hF'⟩ : ∃ F, w11.heap.size = F := ⟨_, rfl⟩
              have oA : Out 0 0 w11 W12 := by rw [← hW12]; exact (Out.refl 0 0 w11).alloc _
              have fF : W12.heap[F]? = some (.cells #[.int .i64 0, .int .i64 0] 57 (0, 0)) := by rw [← hW12, ← hF']; exact heap_alloc_new _ _
              rw [hW12] at ho12 HBk
              (try rw [hW12])
              (try rw [hF'])
              clear hW12 hF' c1 HBk
              have HO12 := hid_mk (HO11.out.trans (oA.trans ho12))
              have HF12 := hid_mk (ho12.heap fF (.inr (Nat.zero_le _)))
              have HC12 := hid_mk (HC11.out.kept (oA.trans ho12) (.inr (Nat.zero_le _)))
              clear oA fF ho12
              go_wp2_with fail
              obtain ⟨W13, hW13⟩ : ∃ W, w12.alloc (.cells #[.int .i64 (A : Int), .int .i64 3, .int .i64 z, .int .i64 x, .int .i64 kd] 36) = W := ⟨_, rfl⟩
              obtain ⟨B9, hB9⟩ : ∃ B, w12.heap.size = B := ⟨_, rfl⟩
              have o13 : Out 0 0 w12 W13 := by rw [← hW13]; exact (Out.refl 0 0 w12).alloc _
              have fB : W13.heap[B9]? = some (bo (A : Int) 3 z x kd) := by rw [← hW13, ← hB9]; exact heap_alloc_new _ _
              obtain ⟨s0, s1, s2, s3, s4⟩ := bo_facts fB
              have f0 : W13.cell? ⟨F, 0, none⟩ = some (.int .i64 0) := by
                have := o13.heap HF12.out (.inr (Nat.zero_le _))
                simp [World.cell?, this]
              have c3 := (HC12.out.kept o13 (.inr (Nat.zero_le _))).cells.2.2.2.1
              have HO13 := hid_mk (HO12.out.trans o13)
              rw [hW13]
              (try rw [hB9])
              clear hW13 hB9 o13 fB
              refine wp_region_held_drew (S := fun w' => w'.cell? ⟨F, 0, none⟩ = some (.int .i64 0) ∧ w'.cell? ⟨b, 3, none⟩ = some (.int .i64 st.last) ∧ w'.cell? ⟨B9, 0, none⟩ = some (.int .i64 (A : Int)) ∧ w'.cell? ⟨B9, 1, none⟩ = some (.int .i64 3) ∧ w'.cell? ⟨B9, 2, none⟩ = some (.int .i64 z) ∧ w'.cell? ⟨B9, 3, none⟩ = some (.int .i64 x) ∧ w'.cell? ⟨B9, 4, none⟩ = some (.int .i64 kd)) (by kernel_rfl) ?hS10 (fun hHeld => ?rest10)
              case hS10 => exact ⟨f0, c3, s0, s1, s2, s3, s4⟩
              obtain ⟨Z9, hZ⟩ : ∃ Z, W13.drew = Z := ⟨_, rfl⟩
              have OZ9 : Out 0 0 W13 Z9 := by rw [← hZ]; exact (Out.refl 0 0 W13).drew
              rw [hZ] at hHeld ⊢
              clear hZ
              refine wpAnyH_take (i := 0) (v := ?v11) rfl (by kernel_rfl) (by kernel_rfl) (by kernel_rfl) (fun _ _ _ h => h) (Or.inl ⟨by rfl, ?hy11⟩) (by assumption) ?rest11
              case hy11 => (intro w hSw; (try dsimp only at hSw); simp only [List.getElem_toArray, List.getElem_cons_zero, List.getElem_cons_succ]; go_simp; (try with_reducible rfl))
              (try simp only [Act.put, List.getElem_toArray, List.getElem_cons_zero, List.getElem_cons_succ, List.setIfInBounds_toArray, List.set_cons_zero, List.set_cons_succ])
              refine wpAnyH_take (i := 1) (v := ?v12) rfl (by kernel_rfl) (by kernel_rfl) (by kernel_rfl) (fun _ _ _ h => h) (Or.inl ⟨by rfl, ?hy12⟩) (by assumption) ?rest12
              case hy12 => (intro w hSw; (try dsimp only at hSw); simp only [List.getElem_toArray, List.getElem_cons_zero, List.getElem_cons_succ]; go_simp; (try with_reducible rfl))
              (try simp only [Act.put, List.getElem_toArray, List.getElem_cons_zero, List.getElem_cons_succ, List.setIfInBounds_toArray, List.set_cons_zero, List.set_cons_succ])
              refine wpAnyH_take (i := 2) (v := ?v13) rfl (by kernel_rfl) (by kernel_rfl) (by kernel_rfl) (fun _ _ _ h => h) (Or.inl ⟨by rfl, ?hy13⟩) (by assumption) ?rest13
              case hy13 => (intro w hSw; (try dsimp only at hSw); simp only [List.getElem_toArray, List.getElem_cons_zero, List.getElem_cons_succ]; go_simp; (try with_reducible rfl))
              (try simp only [Act.put, List.getElem_toArray, List.getElem_cons_zero, List.getElem_cons_succ, List.setIfInBounds_toArray, List.set_cons_zero, List.set_cons_succ])
              refine wpAnyH_take (i := 3) (v := ?v14) rfl (by kernel_rfl) (by kernel_rfl) (by kernel_rfl) (fun _ _ _ h => h) (Or.inl ⟨by rfl, ?hy14⟩) (by assumption) ?rest14
              case hy14 => (intro w hSw; (try dsimp only at hSw); simp only [List.getElem_toArray, List.getElem_cons_zero, List.getElem_cons_succ]; go_simp; (try with_reducible rfl))
              (try simp only [Act.put, List.getElem_toArray, List.getElem_cons_zero, List.getElem_cons_succ, List.setIfInBounds_toArray, List.set_cons_zero, List.set_cons_succ])
              refine wpAnyH_take (i := 4) (v := ?v15) rfl (by kernel_rfl) (by kernel_rfl) (by kernel_rfl) (fun _ _ _ h => h) (Or.inl ⟨by rfl, ?hy15⟩) (by assumption) ?rest15
              case hy15 => (intro w hSw; (try dsimp only at hSw); simp only [List.getElem_toArray, List.getElem_cons_zero, List.getElem_cons_succ]; go_simp; (try with_reducible rfl))
              (try simp only [Act.put, List.getElem_toArray, List.getElem_cons_zero, List.getElem_cons_succ, List.setIfInBounds_toArray, List.set_cons_zero, List.set_cons_succ])
              refine wpAnyH_take (i := 5) (v := ?v16) rfl (by kernel_rfl) (by kernel_rfl) (by kernel_rfl) (fun _ _ _ h => h) (Or.inl ⟨by rfl, ?hy16⟩) (by assumption) ?rest16
              case hy16 => (intro w hSw; (try dsimp only at hSw); simp only [List.getElem_toArray, List.getElem_cons_zero, List.getElem_cons_succ]; go_simp; (try with_reducible rfl))
              (try simp only [Act.put, List.getElem_toArray, List.getElem_cons_zero, List.getElem_cons_succ, List.setIfInBounds_toArray, List.set_cons_zero, List.set_cons_succ])
              refine wpAnyH_take (i := 6) (v := ?v17) rfl (by kernel_rfl) (by kernel_rfl) (by kernel_rfl) (fun _ _ _ h => h) (Or.inl ⟨by rfl, ?hy17⟩) (by assumption) ?rest17
              case hy17 => (intro w hSw; (try dsimp only at hSw); simp only [List.getElem_toArray, List.getElem_cons_zero, List.getElem_cons_succ]; go_simp; (try with_reducible rfl))
              (try simp only [Act.put, List.getElem_toArray, List.getElem_cons_zero, List.getElem_cons_succ, List.setIfInBounds_toArray, List.set_cons_zero, List.set_cons_succ])
              refine wpAnyH_take (i := 7) (v := ?v18) rfl (by kernel_rfl) (by kernel_rfl) (by kernel_rfl) (fun _ _ _ h => h) (Or.inl ⟨by rfl, ?hy18⟩) (by assumption) ?rest18
              case hy18 => (intro w hSw; (try dsimp only at hSw); simp only [List.getElem_toArray, List.getElem_cons_zero, List.getElem_cons_succ]; go_simp; (try with_reducible rfl))
              (try simp only [Act.put, List.getElem_toArray, List.getElem_cons_zero, List.getElem_cons_succ, List.setIfInBounds_toArray, List.set_cons_zero, List.set_cons_succ])
              refine wpAnyH_take (i := 8) (v := ?v19) rfl (by kernel_rfl) (by kernel_rfl) (by kernel_rfl) (fun _ _ _ h => h) (Or.inl ⟨by rfl, ?hy19⟩) (by assumption) ?rest19
              case hy19 => (intro w hSw; (try dsimp only at hSw); simp only [List.getElem_toArray, List.getElem_cons_zero, List.getElem_cons_succ]; go_simp; (try with_reducible rfl))
              (try simp only [Act.put, List.getElem_toArray, List.getElem_cons_zero, List.getElem_cons_succ, List.setIfInBounds_toArray, List.set_cons_zero, List.set_cons_succ])
              refine wpAnyH_take (i := 9) (v := ?v20) rfl (by kernel_rfl) (by kernel_rfl) (by kernel_rfl) (fun _ _ _ h => h) (Or.inl ⟨by rfl, ?hy20⟩) (by assumption) ?rest20
              case hy20 => (intro w hSw; (try dsimp only at hSw); simp only [List.getElem_toArray, List.getElem_cons_zero, List.getElem_cons_succ]; go_simp; (try with_reducible rfl))
              (try simp only [Act.put, List.getElem_toArray, List.getElem_cons_zero, List.getElem_cons_succ, List.setIfInBounds_toArray, List.set_cons_zero, List.set_cons_succ])
              refine wpAnyH_take (i := 10) (v := ?v21) rfl (by kernel_rfl) (by kernel_rfl) (by kernel_rfl) (fun _ _ _ h => h) (Or.inl ⟨by rfl, ?hy21⟩) (by assumption) ?rest21
              case hy21 => (intro w hSw; (try dsimp only at hSw); simp only [List.getElem_toArray, List.getElem_cons_zero, List.getElem_cons_succ]; go_simp; (try with_reducible rfl))
              (try simp only [Act.put, List.getElem_toArray, List.getElem_cons_zero, List.getElem_cons_succ, List.setIfInBounds_toArray, List.set_cons_zero, List.set_cons_succ])
              refine wpAnyH_take (i := 11) (v := ?v22) rfl (by kernel_rfl) (by kernel_rfl) (by kernel_rfl) (fun _ _ _ h => h) (Or.inl ⟨by rfl, ?hy22⟩) (by assumption) ?rest22
              case hy22 => (intro w hSw; (try dsimp only at hSw); simp only [List.getElem_toArray, List.getElem_cons_zero, List.getElem_cons_succ]; go_simp; (try with_reducible rfl))
              (try simp only [Act.put, List.getElem_toArray, List.getElem_cons_zero, List.getElem_cons_succ, List.setIfInBounds_toArray, List.set_cons_zero, List.set_cons_succ])
              refine wpAnyH_take (i := 12) (v := ?v23) rfl (by kernel_rfl) (by kernel_rfl) (by kernel_rfl) (fun _ _ _ h => h) (Or.inl ⟨by rfl, ?hy23⟩) (by assumption) ?rest23
              case hy23 => (intro w hSw; (try dsimp only at hSw); simp only [List.getElem_toArray, List.getElem_cons_zero, List.getElem_cons_succ]; go_simp; (try with_reducible rfl))
              (try simp only [Act.put, List.getElem_toArray, List.getElem_cons_zero, List.getElem_cons_succ, List.setIfInBounds_toArray, List.set_cons_zero, List.set_cons_succ])
              refine wpAnyH_take (i := 13) (v := ?v24) rfl (by kernel_rfl) (by kernel_rfl) (by kernel_rfl) (fun _ _ _ h => h) (Or.inl ⟨by rfl, ?hy24⟩) (by assumption) ?rest24
              case hy24 => (intro w hSw; (try dsimp only at hSw); simp only [List.getElem_toArray, List.getElem_cons_zero, List.getElem_cons_succ]; go_simp; (try with_reducible rfl))
              (try simp only [Act.put, List.getElem_toArray, List.getElem_cons_zero, List.getElem_cons_succ, List.setIfInBounds_toArray, List.set_cons_zero, List.set_cons_succ])
              refine wpAnyH_take (i := 14) (v := ?v25) rfl (by kernel_rfl) (by kernel_rfl) (by kernel_rfl) (fun _ _ _ h => h) (Or.inl ⟨by rfl, ?hy25⟩) (by assumption) ?rest25
              case hy25 => (intro w hSw; (try dsimp only at hSw); simp only [List.getElem_toArray, List.getElem_cons_zero, List.getElem_cons_succ]; go_simp; (try with_reducible rfl))
              (try simp only [Act.put, List.getElem_toArray, List.getElem_cons_zero, List.getElem_cons_succ, List.setIfInBounds_toArray, List.set_cons_zero, List.set_cons_succ])
              refine wpAnyH_take (i := 15) (v := ?v26) rfl (by kernel_rfl) (by kernel_rfl) (by kernel_rfl) (fun _ _ _ h => h) (Or.inl ⟨by rfl, ?hy26⟩) (by assumption) ?rest26
              case hy26 => (intro w hSw; (try dsimp only at hSw); simp only [List.getElem_toArray, List.getElem_cons_zero, List.getElem_cons_succ]; go_simp; (try with_reducible rfl))
              (try simp only [Act.put, List.getElem_toArray, List.getElem_cons_zero, List.getElem_cons_succ, List.setIfInBounds_toArray, List.set_cons_zero, List.set_cons_succ])
              refine wpAnyH_take (i := 16) (v := ?v27) rfl (by kernel_rfl) (by kernel_rfl) (by kernel_rfl) (fun _ _ _ h => h) (Or.inl ⟨by rfl, ?hy27⟩) (by assumption) ?rest27
              case hy27 => (intro w hSw; (try dsimp only at hSw); simp only [List.getElem_toArray, List.getElem_cons_zero, List.getElem_cons_succ]; go_simp; (try with_reducible rfl))
              (try simp only [Act.put, List.getElem_toArray, List.getElem_cons_zero, List.getElem_cons_succ, List.setIfInBounds_toArray, List.set_cons_zero, List.set_cons_succ])
              refine wpAnyH_take (i := 17) (v := ?v28) rfl (by kernel_rfl) (by kernel_rfl) (by kernel_rfl) (fun _ _ _ h => h) (Or.inl ⟨by rfl, ?hy28⟩) (by assumption) ?rest28
              case hy28 => (intro w hSw; (try dsimp only at hSw); simp only [List.getElem_toArray, List.getElem_cons_zero, List.getElem_cons_succ]; go_simp; (try with_reducible rfl))
              (try simp only [Act.put, List.getElem_toArray, List.getElem_cons_zero, List.getElem_cons_succ, List.setIfInBounds_toArray, List.set_cons_zero, List.set_cons_succ])
              refine wpAnyH_take (i := 18) (v := ?v29) rfl (by kernel_rfl) (by kernel_rfl) (by kernel_rfl) (fun _ _ _ h => h) (Or.inl ⟨by rfl, ?hy29⟩) (by assumption) ?rest29
              case hy29 => (intro w hSw; (try dsimp only at hSw); simp only [List.getElem_toArray, List.getElem_cons_zero, List.getElem_cons_succ]; go_simp; (try with_reducible rfl))
              (try simp only [Act.put, List.getElem_toArray, List.getElem_cons_zero, List.getElem_cons_succ, List.setIfInBounds_toArray, List.set_cons_zero, List.set_cons_succ])
              refine wpAnyH_take (i := 19) (v := ?v30) rfl (by kernel_rfl) (by kernel_rfl) (by kernel_rfl) (fun _ _ _ h => h) (Or.inl ⟨by rfl, ?hy30⟩) (by assumption) ?rest30
              case hy30 => (intro w hSw; (try dsimp only at hSw); simp only [List.getElem_toArray, List.getElem_cons_zero, List.getElem_cons_succ]; go_simp; (try with_reducible rfl))
              (try simp only [Act.put, List.getElem_toArray, List.getElem_cons_zero, List.getElem_cons_succ, List.setIfInBounds_toArray, List.set_cons_zero, List.set_cons_succ])
              refine wpAnyH_take (i := 20) (v := ?v31) rfl (by kernel_rfl) (by kernel_rfl) (by kernel_rfl) (fun _ _ _ h => h) (Or.inl ⟨by rfl, ?hy31⟩) (by assumption) ?rest31
              case hy31 => (intro w hSw; (try dsimp only at hSw); simp only [List.getElem_toArray, List.getElem_cons_zero, List.getElem_cons_succ]; go_simp; (try with_reducible rfl))
              (try simp only [Act.put, List.getElem_toArray, List.getElem_cons_zero, List.getElem_cons_succ, List.setIfInBounds_toArray, List.set_cons_zero, List.set_cons_succ])
              refine wpAnyH_take (i := 21) (v := ?v32) rfl (by kernel_rfl) (by kernel_rfl) (by kernel_rfl) (fun _ _ _ h => h) (Or.inl ⟨by rfl, ?hy32⟩) (by assumption) ?rest32
              case hy32 => (intro w hSw; (try dsimp only at hSw); simp only [List.getElem_toArray, List.getElem_cons_zero, List.getElem_cons_succ]; go_simp; (try with_reducible rfl))
              (try simp only [Act.put, List.getElem_toArray, List.getElem_cons_zero, List.getElem_cons_succ, List.setIfInBounds_toArray, List.set_cons_zero, List.set_cons_succ])
              refine wpAnyH_take (i := 22) (v := ?v33) rfl (by kernel_rfl) (by kernel_rfl) (by kernel_rfl) (fun _ _ _ h => h) (Or.inl ⟨by rfl, ?hy33⟩) (by assumption) ?rest33
              case hy33 => (intro w hSw; (try dsimp only at hSw); simp only [List.getElem_toArray, List.getElem_cons_zero, List.getElem_cons_succ]; go_simp; (try with_reducible rfl))
              (try simp only [Act.put, List.getElem_toArray, List.getElem_cons_zero, List.getElem_cons_succ, List.setIfInBounds_toArray, List.set_cons_zero, List.set_cons_succ])
              refine wpAnyH_take (i := 23) (v := ?v34) rfl (by kernel_rfl) (by kernel_rfl) (by kernel_rfl) (fun _ _ _ h => h) (Or.inl ⟨by rfl, ?hy34⟩) (by assumption) ?rest34
              case hy34 => (intro w hSw; (try dsimp only at hSw); simp only [List.getElem_toArray, List.getElem_cons_zero, List.getElem_cons_succ]; go_simp; (try with_reducible rfl))
              (try simp only [Act.put, List.getElem_toArray, List.getElem_cons_zero, List.getElem_cons_succ, List.setIfInBounds_toArray, List.set_cons_zero, List.set_cons_succ])
              refine wpAnyH_take (i := 24) (v := ?v35) rfl (by kernel_rfl) (by kernel_rfl) (by kernel_rfl) (fun _ _ _ h => h) (Or.inl ⟨by rfl, ?hy35⟩) (by assumption) ?rest35
              case hy35 => (intro w hSw; (try dsimp only at hSw); simp only [List.getElem_toArray, List.getElem_cons_zero, List.getElem_cons_succ]; go_simp; (try with_reducible rfl))
              (try simp only [Act.put, List.getElem_toArray, List.getElem_cons_zero, List.getElem_cons_succ, List.setIfInBounds_toArray, List.set_cons_zero, List.set_cons_succ])
              refine wpAnyH_done (by kernel_rfl) ?_ _
              clear hHeld
              have HOZ := hid_mk OZ9
              clear OZ9 s0 s1 s2 s3 s4 f0 c3
              go_wp2
              go_ret
              exact ⟨rfl, HO13.out.trans HOZ.out⟩
      · obtain ⟨a, ha, hh, hlen, haM, hfr⟩ := frL_head hnf
        obtain ⟨L, hL⟩ : ∃ L, (frL N st (ck : Int) (64 * N)).length = L := ⟨_, rfl⟩
        rw [hL] at hidx hlen
        rw [ha, if_pos (by omega), show ((a : Int)).toNat = a from by omega] at hpl
        have L0 : (0 : Int) < (L : Int) := by omega
        have HO9 := hid_mk (HO8.out.trans ho9)
        have HS9 := hid_mk (HS8.out.quiet ho9)
        have HPl := hid_mk hpl
        have HF2 := hid_mk (firsts_at HS9.out HN.out.2 hck)
        have HAa := hid_mk (And.intro hh (And.intro haM (And.intro (fr_page hfr) hL)))
        clear hcs hce ho9 hnf hpl HS8 ha hh hlen haM hfr hL
        go_wp2_with fail
        clear hidx
        refine HF2.out.mono ?_
        rintro e w10 ⟨cs2, so2, scp2, rfl, hcs2, hce2, ho10⟩
        rw [HAa.out.2.2.2] at hcs2
        have hidx := index88 cs2 ck _ hck hcs2
        obtain ⟨g, rfl, hg1, hg2, ca⟩ := hce2 0 (a : Int) HAa.out.1
        have HO10 := hid_mk (HO9.out.trans ho10)
        have HS10 := hid_mk (HS9.out.quiet ho10)
        obtain ⟨vx, cx, _⟩ := HS10.out.2.2.2.2.2
        have c0 := cx.cells.1
        have HOc := hid_mk HO10.out
        have HO10f := hid_mk (HO7.out.trans HO10.out)
        clear hcs2 hce2 ho10 hg1 hg2 HF2 HO9 HS9 cx
        go_wp2_with fail
        clear hidx ca c0
        obtain ⟨ap, hap⟩ : ∃ ap, a / 64 = ap := ⟨_, rfl⟩
        have hpp := HAa.out.2.2.1
        rw [hap] at hpp
        have HAp := hid_mk (And.intro hap hpp)
        have aM : (a : Int) < 768 := by have := HAa.out.2.1; have := HN.out; omega
        have a0 : (0 : Int) ≤ (a : Int) := by omega
        clear hap hpp
        go_loopw [15, 17] (fun v u wr => ∃ yy : Int, v = .int .i64 (a : Int) ∧ u = .int .i64 yy ∧ yy ≤ (N : Int) - 1 ∧ -1 ≤ yy ∧ wr = w10) (fun _ u _ => (intOf u + 1).toNat)
        case atStart => exact ⟨_, rfl, rfl, Int.le_refl _, by omega, rfl⟩
        case round =>
          obtain ⟨yy, rfl, rfl, y1, y2, hwr⟩ := hrel
          subst hwr
          by_cases hy : 0 ≤ yy
          · obtain ⟨yn, rfl⟩ : ∃ yn : Nat, yy = (yn : Int) := ⟨yy.toNat, by omega⟩
            obtain ⟨Y, hY⟩ : ∃ Y : Nat, (64 : Int) * (yn : Int) = (Y : Int) := ⟨64 * yn, by omega⟩
            have Y0 : (0 : Int) ≤ (Y : Int) := by omega
            have Y1 : (Y : Int) ≤ 768 := by omega
            by_cases h1 : (a : Int) % 64 = 0
            · by_cases h2 : (Y : Int) ≤ (a : Int)
              · have s3 : (a : Int) / 64 = (ap : Int) := by have := HAp.out.1; omega
                have s4 : (0 : Int) ≤ (ap : Int) := by omega
                have s5 : (ap : Int) < (N : Int) := by have := HAp.out.2.1; omega
                have dP := HOc.out.cell HDP.out (.inr (Nat.zero_le _))
                have dK := HOc.out.cell (HPg.out ap HAp.out.2.1) (.inr (Nat.zero_le _))
                rw [fP_0, Nat.add_zero, HAp.out.2.2] at dK
                go_wp2_with fail
                go_loopw [18, 19] (fun f u wq => ∃ i : Nat, f = .bool (false) ∧ u = .int .i64 (i : Int) ∧ i ≤ 1 ∧ wq = wr) (fun _ u _ => 1 - (intOf u).toNat)
                case atStart => exact ⟨0, rfl, rfl, Nat.zero_le _, rfl⟩
                case round =>
                  obtain ⟨i, rfl, rfl, i1, hwq⟩ := hrel
                  subst hwq
                  have i0 : (0 : Int) ≤ (i : Int) := by omega
                  by_cases hi : i < 1
                  · have i2 : (i : Int) < (1 : Int) := by omega
                    go_wp2_with fail
                    exact ⟨⟨i + 1, rfl, by congr 1, by omega, by trivial⟩, by simp [intOf] <;> omega⟩
                  · have e : i = 1 := by omega
                    subst e
                    go_wp2_with fail
                    exact ⟨⟨(yn : Int) - 1, rfl, rfl, by omega, by omega, by trivial⟩, by simp [intOf] <;> omega⟩
              · go_wp2_with fail
                go_loopw [18, 19] (fun f u wq => ∃ i : Nat, f = .bool (false) ∧ u = .int .i64 (i : Int) ∧ i ≤ 1 ∧ wq = wr) (fun _ u _ => 1 - (intOf u).toNat)
                case atStart => exact ⟨0, rfl, rfl, Nat.zero_le _, rfl⟩
                case round =>
                  obtain ⟨i, rfl, rfl, i1, hwq⟩ := hrel
                  subst hwq
                  have i0 : (0 : Int) ≤ (i : Int) := by omega
                  by_cases hi : i < 1
                  · have i2 : (i : Int) < (1 : Int) := by omega
                    go_wp2_with fail
                    exact ⟨⟨i + 1, rfl, by congr 1, by omega, by trivial⟩, by simp [intOf] <;> omega⟩
                  · have e : i = 1 := by omega
                    subst e
                    go_wp2_with fail
                    exact ⟨⟨(yn : Int) - 1, rfl, rfl, by omega, by omega, by trivial⟩, by simp [intOf] <;> omega⟩
            · go_wp2_with fail
              go_loopw [18, 19] (fun f u wq => ∃ i : Nat, f = .bool (false) ∧ u = .int .i64 (i : Int) ∧ i ≤ 1 ∧ wq = wr) (fun _ u _ => 1 - (intOf u).toNat)
              case atStart => exact ⟨0, rfl, rfl, Nat.zero_le _, rfl⟩
              case round =>
                obtain ⟨i, rfl, rfl, i1, hwq⟩ := hrel
                subst hwq
                have i0 : (0 : Int) ≤ (i : Int) := by omega
                by_cases hi : i < 1
                · have i2 : (i : Int) < (1 : Int) := by omega
                  go_wp2_with fail
                  exact ⟨⟨i + 1, rfl, by congr 1, by omega, by trivial⟩, by simp [intOf] <;> omega⟩
                · have e : i = 1 := by omega
                  subst e
                  go_wp2_with fail
                  exact ⟨⟨(yn : Int) - 1, rfl, rfl, by omega, by omega, by trivial⟩, by simp [intOf] <;> omega⟩
          · obtain ⟨A, hA⟩ : ∃ A, a = A := ⟨_, rfl⟩
            obtain ⟨FR, hFR⟩ : ∃ FR, false = FR := ⟨_, rfl⟩
            have hpl := HPl.out
            rw [hFR, hA] at hpl
            rw [hA] at a0 aM ⊢
            have HPl2 := hid_mk hpl
            clear hpl hFR
            have hal := al_right (t := kd) HI.out.1 HI.out.2.1 (fits3 HZ.out.1 HZ.out.2)
            rw [HPl2.out] at hal
            rcases hal with ⟨hal, _⟩ | ⟨a', fr', hal, ha2, ha3, ha4, ha5, ha6, ha7⟩
            · cases hal
            injection hal with hal
            obtain ⟨rfl, rfl⟩ : A = a' ∧ FR = fr' := by injection hal with h1 h2; exact ⟨h1, h2⟩
            clear hal
            obtain ⟨st2, hst2⟩ : ∃ q, takeF N st A FR 3 z kd = q := ⟨_, rfl⟩
            obtain ⟨x, hx⟩ : ∃ x, st.last + 1 = x := ⟨_, rfl⟩
            have hsr : serOf st 3 = x := hx
            have hO2 : st2.O A = (3, z, x, kd) := by rw [← hst2, takeF_O, putO_self, hsr]
            rw [hst2] at ha2 ha3
            have hM : (rawOf N st2).M (A : Int) = some (3, z, x, kd) := by
              show obM st2 (A : Int) = _
              unfold obM
              rw [show ((A : Int)).toNat = A from by omega, hO2, if_pos ⟨by omega, rfl⟩]
            have HAl := hid_mk (alloc_is HS10.out.2.2.1 (by have := HZ.out; omega) (by have := HZ.out; omega) (by have := HLF.out; omega) ha2)
            have hb1 := HS10.out.1
            obtain ⟨vx, cx, _⟩ := HS10.out.2.2.2.2.2
            have c1 := cx.cells.2.1
            have HCx := hid_mk cx
            have HM := hid_mk hM
            have L0 : (0 : Int) ≤ st.last := HI.out.1.last0
            have L1 : st.last ≤ 120 := HLF.out
            have x0 : (0 : Int) ≤ x := by omega
            have x1 : x ≤ 121 := by omega
            have hwx : IntKind.i64.wrap x = x := by simp [IntKind.wrap, IntKind.signed, IntKind.bits]; omega
            have A0 : (0 : Int) ≤ (A : Int) := by omega
            clear hst2 hsr hO2 hM ha2 ha3 ha4 ha5 ha6 ha7 cx
            go_wp2_with fail
            refine HAl.out.mono ?_
            rintro e w11 ⟨rfl, hs11, ho11⟩
            have oA : Out 0 0 w11 (w11.alloc (.cells #[.int .i64 0, .int .i64 0] 57)) := (Out.refl 0 0 w11).alloc _
            clear c1
            have c1 := ((HCx.out.kept ho11 (.inl hb1.1)).kept oA (.inr (Nat.zero_le _))).cells.2.1
            have HBk := hid_mk (block_some (hs11.quiet oA).1 HM.out)
            have HO11 := hid_mk (HO10f.out.past ho11 (by have := HQ.out; omega))
            have HC11 := hid_mk (HCx.out.kept ho11 (.inl hb1.1))
            clear hs11 oA HAl ho11
            go_wp2_with fail
            refine HBk.out.mono ?_
            rintro e w12 ⟨rfl, ho12⟩
            obtain ⟨W12, hW12⟩ : ∃ W, w11.alloc (.cells #[.int .i64 0, .int .i64 0] 57) = W := ⟨_, rfl⟩
            obtain ⟨F, hF'⟩ : ∃ F, w11.heap.size = F := ⟨_, rfl⟩
            have oA : Out 0 0 w11 W12 := by rw [← hW12]; exact (Out.refl 0 0 w11).alloc _
            have fF : W12.heap[F]? = some (.cells #[.int .i64 0, .int .i64 0] 57 (0, 0)) := by rw [← hW12, ← hF']; exact heap_alloc_new _ _
            rw [hW12] at ho12 HBk
            (try rw [hW12])
            (try rw [hF'])
            clear hW12 hF' c1 HBk
            have HO12 := hid_mk (HO11.out.trans (oA.trans ho12))
            have HF12 := hid_mk (ho12.heap fF (.inr (Nat.zero_le _)))
            have HC12 := hid_mk (HC11.out.kept (oA.trans ho12) (.inr (Nat.zero_le _)))
            clear oA fF ho12
            go_wp2_with fail
            obtain ⟨W13, hW13⟩ : ∃ W, w12.alloc (.cells #[.int .i64 (A : Int), .int .i64 3, .int .i64 z, .int .i64 x, .int .i64 kd] 36) = W := ⟨_, rfl⟩
            obtain ⟨B9, hB9⟩ : ∃ B, w12.heap.size = B := ⟨_, rfl⟩
            have o13 : Out 0 0 w12 W13 := by rw [← hW13]; exact (Out.refl 0 0 w12).alloc _
            have fB : W13.heap[B9]? = some (bo (A : Int) 3 z x kd) := by rw [← hW13, ← hB9]; exact heap_alloc_new _ _
            obtain ⟨s0, s1, s2, s3, s4⟩ := bo_facts fB
            have f0 : W13.cell? ⟨F, 0, none⟩ = some (.int .i64 0) := by
              have := o13.heap HF12.out (.inr (Nat.zero_le _))
              simp [World.cell?, this]
            have c3 := (HC12.out.kept o13 (.inr (Nat.zero_le _))).cells.2.2.2.1
            have HO13 := hid_mk (HO12.out.trans o13)
            rw [hW13]
            (try rw [hB9])
            clear hW13 hB9 o13 fB
            refine wp_region_held_drew (S := fun w' => w'.cell? ⟨F, 0, none⟩ = some (.int .i64 0) ∧ w'.cell? ⟨b, 3, none⟩ = some (.int .i64 st.last) ∧ w'.cell? ⟨B9, 0, none⟩ = some (.int .i64 (A : Int)) ∧ w'.cell? ⟨B9, 1, none⟩ = some (.int .i64 3) ∧ w'.cell? ⟨B9, 2, none⟩ = some (.int .i64 z) ∧ w'.cell? ⟨B9, 3, none⟩ = some (.int .i64 x) ∧ w'.cell? ⟨B9, 4, none⟩ = some (.int .i64 kd)) (by kernel_rfl) ?hS36 (fun hHeld => ?rest36)
            case hS36 => exact ⟨f0, c3, s0, s1, s2, s3, s4⟩
            obtain ⟨Z9, hZ⟩ : ∃ Z, W13.drew = Z := ⟨_, rfl⟩
            have OZ9 : Out 0 0 W13 Z9 := by rw [← hZ]; exact (Out.refl 0 0 W13).drew
            rw [hZ] at hHeld ⊢
            clear hZ
            refine wpAnyH_take (i := 0) (v := ?v37) rfl (by kernel_rfl) (by kernel_rfl) (by kernel_rfl) (fun _ _ _ h => h) (Or.inl ⟨by rfl, ?hy37⟩) (by assumption) ?rest37
            case hy37 => (intro w hSw; (try dsimp only at hSw); simp only [List.getElem_toArray, List.getElem_cons_zero, List.getElem_cons_succ]; go_simp; (try with_reducible rfl))
            (try simp only [Act.put, List.getElem_toArray, List.getElem_cons_zero, List.getElem_cons_succ, List.setIfInBounds_toArray, List.set_cons_zero, List.set_cons_succ])
            refine wpAnyH_take (i := 1) (v := ?v38) rfl (by kernel_rfl) (by kernel_rfl) (by kernel_rfl) (fun _ _ _ h => h) (Or.inl ⟨by rfl, ?hy38⟩) (by assumption) ?rest38
            case hy38 => (intro w hSw; (try dsimp only at hSw); simp only [List.getElem_toArray, List.getElem_cons_zero, List.getElem_cons_succ]; go_simp; (try with_reducible rfl))
            (try simp only [Act.put, List.getElem_toArray, List.getElem_cons_zero, List.getElem_cons_succ, List.setIfInBounds_toArray, List.set_cons_zero, List.set_cons_succ])
            refine wpAnyH_take (i := 2) (v := ?v39) rfl (by kernel_rfl) (by kernel_rfl) (by kernel_rfl) (fun _ _ _ h => h) (Or.inl ⟨by rfl, ?hy39⟩) (by assumption) ?rest39
            case hy39 => (intro w hSw; (try dsimp only at hSw); simp only [List.getElem_toArray, List.getElem_cons_zero, List.getElem_cons_succ]; go_simp; (try with_reducible rfl))
            (try simp only [Act.put, List.getElem_toArray, List.getElem_cons_zero, List.getElem_cons_succ, List.setIfInBounds_toArray, List.set_cons_zero, List.set_cons_succ])
            refine wpAnyH_take (i := 3) (v := ?v40) rfl (by kernel_rfl) (by kernel_rfl) (by kernel_rfl) (fun _ _ _ h => h) (Or.inl ⟨by rfl, ?hy40⟩) (by assumption) ?rest40
            case hy40 => (intro w hSw; (try dsimp only at hSw); simp only [List.getElem_toArray, List.getElem_cons_zero, List.getElem_cons_succ]; go_simp; (try with_reducible rfl))
            (try simp only [Act.put, List.getElem_toArray, List.getElem_cons_zero, List.getElem_cons_succ, List.setIfInBounds_toArray, List.set_cons_zero, List.set_cons_succ])
            refine wpAnyH_take (i := 4) (v := ?v41) rfl (by kernel_rfl) (by kernel_rfl) (by kernel_rfl) (fun _ _ _ h => h) (Or.inl ⟨by rfl, ?hy41⟩) (by assumption) ?rest41
            case hy41 => (intro w hSw; (try dsimp only at hSw); simp only [List.getElem_toArray, List.getElem_cons_zero, List.getElem_cons_succ]; go_simp; (try with_reducible rfl))
            (try simp only [Act.put, List.getElem_toArray, List.getElem_cons_zero, List.getElem_cons_succ, List.setIfInBounds_toArray, List.set_cons_zero, List.set_cons_succ])
            refine wpAnyH_take (i := 5) (v := ?v42) rfl (by kernel_rfl) (by kernel_rfl) (by kernel_rfl) (fun _ _ _ h => h) (Or.inl ⟨by rfl, ?hy42⟩) (by assumption) ?rest42
            case hy42 => (intro w hSw; (try dsimp only at hSw); simp only [List.getElem_toArray, List.getElem_cons_zero, List.getElem_cons_succ]; go_simp; (try with_reducible rfl))
            (try simp only [Act.put, List.getElem_toArray, List.getElem_cons_zero, List.getElem_cons_succ, List.setIfInBounds_toArray, List.set_cons_zero, List.set_cons_succ])
            refine wpAnyH_take (i := 6) (v := ?v43) rfl (by kernel_rfl) (by kernel_rfl) (by kernel_rfl) (fun _ _ _ h => h) (Or.inl ⟨by rfl, ?hy43⟩) (by assumption) ?rest43
            case hy43 => (intro w hSw; (try dsimp only at hSw); simp only [List.getElem_toArray, List.getElem_cons_zero, List.getElem_cons_succ]; go_simp; (try with_reducible rfl))
            (try simp only [Act.put, List.getElem_toArray, List.getElem_cons_zero, List.getElem_cons_succ, List.setIfInBounds_toArray, List.set_cons_zero, List.set_cons_succ])
            refine wpAnyH_take (i := 7) (v := ?v44) rfl (by kernel_rfl) (by kernel_rfl) (by kernel_rfl) (fun _ _ _ h => h) (Or.inl ⟨by rfl, ?hy44⟩) (by assumption) ?rest44
            case hy44 => (intro w hSw; (try dsimp only at hSw); simp only [List.getElem_toArray, List.getElem_cons_zero, List.getElem_cons_succ]; go_simp; (try with_reducible rfl))
            (try simp only [Act.put, List.getElem_toArray, List.getElem_cons_zero, List.getElem_cons_succ, List.setIfInBounds_toArray, List.set_cons_zero, List.set_cons_succ])
            refine wpAnyH_take (i := 8) (v := ?v45) rfl (by kernel_rfl) (by kernel_rfl) (by kernel_rfl) (fun _ _ _ h => h) (Or.inl ⟨by rfl, ?hy45⟩) (by assumption) ?rest45
            case hy45 => (intro w hSw; (try dsimp only at hSw); simp only [List.getElem_toArray, List.getElem_cons_zero, List.getElem_cons_succ]; go_simp; (try with_reducible rfl))
            (try simp only [Act.put, List.getElem_toArray, List.getElem_cons_zero, List.getElem_cons_succ, List.setIfInBounds_toArray, List.set_cons_zero, List.set_cons_succ])
            refine wpAnyH_take (i := 9) (v := ?v46) rfl (by kernel_rfl) (by kernel_rfl) (by kernel_rfl) (fun _ _ _ h => h) (Or.inl ⟨by rfl, ?hy46⟩) (by assumption) ?rest46
            case hy46 => (intro w hSw; (try dsimp only at hSw); simp only [List.getElem_toArray, List.getElem_cons_zero, List.getElem_cons_succ]; go_simp; (try with_reducible rfl))
            (try simp only [Act.put, List.getElem_toArray, List.getElem_cons_zero, List.getElem_cons_succ, List.setIfInBounds_toArray, List.set_cons_zero, List.set_cons_succ])
            refine wpAnyH_take (i := 10) (v := ?v47) rfl (by kernel_rfl) (by kernel_rfl) (by kernel_rfl) (fun _ _ _ h => h) (Or.inl ⟨by rfl, ?hy47⟩) (by assumption) ?rest47
            case hy47 => (intro w hSw; (try dsimp only at hSw); simp only [List.getElem_toArray, List.getElem_cons_zero, List.getElem_cons_succ]; go_simp; (try with_reducible rfl))
            (try simp only [Act.put, List.getElem_toArray, List.getElem_cons_zero, List.getElem_cons_succ, List.setIfInBounds_toArray, List.set_cons_zero, List.set_cons_succ])
            refine wpAnyH_take (i := 11) (v := ?v48) rfl (by kernel_rfl) (by kernel_rfl) (by kernel_rfl) (fun _ _ _ h => h) (Or.inl ⟨by rfl, ?hy48⟩) (by assumption) ?rest48
            case hy48 => (intro w hSw; (try dsimp only at hSw); simp only [List.getElem_toArray, List.getElem_cons_zero, List.getElem_cons_succ]; go_simp; (try with_reducible rfl))
            (try simp only [Act.put, List.getElem_toArray, List.getElem_cons_zero, List.getElem_cons_succ, List.setIfInBounds_toArray, List.set_cons_zero, List.set_cons_succ])
            refine wpAnyH_take (i := 12) (v := ?v49) rfl (by kernel_rfl) (by kernel_rfl) (by kernel_rfl) (fun _ _ _ h => h) (Or.inl ⟨by rfl, ?hy49⟩) (by assumption) ?rest49
            case hy49 => (intro w hSw; (try dsimp only at hSw); simp only [List.getElem_toArray, List.getElem_cons_zero, List.getElem_cons_succ]; go_simp; (try with_reducible rfl))
            (try simp only [Act.put, List.getElem_toArray, List.getElem_cons_zero, List.getElem_cons_succ, List.setIfInBounds_toArray, List.set_cons_zero, List.set_cons_succ])
            refine wpAnyH_take (i := 13) (v := ?v50) rfl (by kernel_rfl) (by kernel_rfl) (by kernel_rfl) (fun _ _ _ h => h) (Or.inl ⟨by rfl, ?hy50⟩) (by assumption) ?rest50
            case hy50 => (intro w hSw; (try dsimp only at hSw); simp only [List.getElem_toArray, List.getElem_cons_zero, List.getElem_cons_succ]; go_simp; (try with_reducible rfl))
            (try simp only [Act.put, List.getElem_toArray, List.getElem_cons_zero, List.getElem_cons_succ, List.setIfInBounds_toArray, List.set_cons_zero, List.set_cons_succ])
            refine wpAnyH_take (i := 14) (v := ?v51) rfl (by kernel_rfl) (by kernel_rfl) (by kernel_rfl) (fun _ _ _ h => h) (Or.inl ⟨by rfl, ?hy51⟩) (by assumption) ?rest51
            case hy51 => (intro w hSw; (try dsimp only at hSw); simp only [List.getElem_toArray, List.getElem_cons_zero, List.getElem_cons_succ]; go_simp; (try with_reducible rfl))
            (try simp only [Act.put, List.getElem_toArray, List.getElem_cons_zero, List.getElem_cons_succ, List.setIfInBounds_toArray, List.set_cons_zero, List.set_cons_succ])
            refine wpAnyH_take (i := 15) (v := ?v52) rfl (by kernel_rfl) (by kernel_rfl) (by kernel_rfl) (fun _ _ _ h => h) (Or.inl ⟨by rfl, ?hy52⟩) (by assumption) ?rest52
            case hy52 => (intro w hSw; (try dsimp only at hSw); simp only [List.getElem_toArray, List.getElem_cons_zero, List.getElem_cons_succ]; go_simp; (try with_reducible rfl))
            (try simp only [Act.put, List.getElem_toArray, List.getElem_cons_zero, List.getElem_cons_succ, List.setIfInBounds_toArray, List.set_cons_zero, List.set_cons_succ])
            refine wpAnyH_take (i := 16) (v := ?v53) rfl (by kernel_rfl) (by kernel_rfl) (by kernel_rfl) (fun _ _ _ h => h) (Or.inl ⟨by rfl, ?hy53⟩) (by assumption) ?rest53
            case hy53 => (intro w hSw; (try dsimp only at hSw); simp only [List.getElem_toArray, List.getElem_cons_zero, List.getElem_cons_succ]; go_simp; (try with_reducible rfl))
            (try simp only [Act.put, List.getElem_toArray, List.getElem_cons_zero, List.getElem_cons_succ, List.setIfInBounds_toArray, List.set_cons_zero, List.set_cons_succ])
            refine wpAnyH_take (i := 17) (v := ?v54) rfl (by kernel_rfl) (by kernel_rfl) (by kernel_rfl) (fun _ _ _ h => h) (Or.inl ⟨by rfl, ?hy54⟩) (by assumption) ?rest54
            case hy54 => (intro w hSw; (try dsimp only at hSw); simp only [List.getElem_toArray, List.getElem_cons_zero, List.getElem_cons_succ]; go_simp; (try with_reducible rfl))
            (try simp only [Act.put, List.getElem_toArray, List.getElem_cons_zero, List.getElem_cons_succ, List.setIfInBounds_toArray, List.set_cons_zero, List.set_cons_succ])
            refine wpAnyH_take (i := 18) (v := ?v55) rfl (by kernel_rfl) (by kernel_rfl) (by kernel_rfl) (fun _ _ _ h => h) (Or.inl ⟨by rfl, ?hy55⟩) (by assumption) ?rest55
            case hy55 => (intro w hSw; (try dsimp only at hSw); simp only [List.getElem_toArray, List.getElem_cons_zero, List.getElem_cons_succ]; go_simp; (try with_reducible rfl))
            (try simp only [Act.put, List.getElem_toArray, List.getElem_cons_zero, List.getElem_cons_succ, List.setIfInBounds_toArray, List.set_cons_zero, List.set_cons_succ])
            refine wpAnyH_take (i := 19) (v := ?v56) rfl (by kernel_rfl) (by kernel_rfl) (by kernel_rfl) (fun _ _ _ h => h) (Or.inl ⟨by rfl, ?hy56⟩) (by assumption) ?rest56
            case hy56 => (intro w hSw; (try dsimp only at hSw); simp only [List.getElem_toArray, List.getElem_cons_zero, List.getElem_cons_succ]; go_simp; (try with_reducible rfl))
            (try simp only [Act.put, List.getElem_toArray, List.getElem_cons_zero, List.getElem_cons_succ, List.setIfInBounds_toArray, List.set_cons_zero, List.set_cons_succ])
            refine wpAnyH_take (i := 20) (v := ?v57) rfl (by kernel_rfl) (by kernel_rfl) (by kernel_rfl) (fun _ _ _ h => h) (Or.inl ⟨by rfl, ?hy57⟩) (by assumption) ?rest57
            case hy57 => (intro w hSw; (try dsimp only at hSw); simp only [List.getElem_toArray, List.getElem_cons_zero, List.getElem_cons_succ]; go_simp; (try with_reducible rfl))
            (try simp only [Act.put, List.getElem_toArray, List.getElem_cons_zero, List.getElem_cons_succ, List.setIfInBounds_toArray, List.set_cons_zero, List.set_cons_succ])
            refine wpAnyH_take (i := 21) (v := ?v58) rfl (by kernel_rfl) (by kernel_rfl) (by kernel_rfl) (fun _ _ _ h => h) (Or.inl ⟨by rfl, ?hy58⟩) (by assumption) ?rest58
            case hy58 => (intro w hSw; (try dsimp only at hSw); simp only [List.getElem_toArray, List.getElem_cons_zero, List.getElem_cons_succ]; go_simp; (try with_reducible rfl))
            (try simp only [Act.put, List.getElem_toArray, List.getElem_cons_zero, List.getElem_cons_succ, List.setIfInBounds_toArray, List.set_cons_zero, List.set_cons_succ])
            refine wpAnyH_take (i := 22) (v := ?v59) rfl (by kernel_rfl) (by kernel_rfl) (by kernel_rfl) (fun _ _ _ h => h) (Or.inl ⟨by rfl, ?hy59⟩) (by assumption) ?rest59
            case hy59 => (intro w hSw; (try dsimp only at hSw); simp only [List.getElem_toArray, List.getElem_cons_zero, List.getElem_cons_succ]; go_simp; (try with_reducible rfl))
            (try simp only [Act.put, List.getElem_toArray, List.getElem_cons_zero, List.getElem_cons_succ, List.setIfInBounds_toArray, List.set_cons_zero, List.set_cons_succ])
            refine wpAnyH_take (i := 23) (v := ?v60) rfl (by kernel_rfl) (by kernel_rfl) (by kernel_rfl) (fun _ _ _ h => h) (Or.inl ⟨by rfl, ?hy60⟩) (by assumption) ?rest60
            case hy60 => (intro w hSw; (try dsimp only at hSw); simp only [List.getElem_toArray, List.getElem_cons_zero, List.getElem_cons_succ]; go_simp; (try with_reducible rfl))
            (try simp only [Act.put, List.getElem_toArray, List.getElem_cons_zero, List.getElem_cons_succ, List.setIfInBounds_toArray, List.set_cons_zero, List.set_cons_succ])
            refine wpAnyH_take (i := 24) (v := ?v61) rfl (by kernel_rfl) (by kernel_rfl) (by kernel_rfl) (fun _ _ _ h => h) (Or.inl ⟨by rfl, ?hy61⟩) (by assumption) ?rest61
            case hy61 => (intro w hSw; (try dsimp only at hSw); simp only [List.getElem_toArray, List.getElem_cons_zero, List.getElem_cons_succ]; go_simp; (try with_reducible rfl))
            (try simp only [Act.put, List.getElem_toArray, List.getElem_cons_zero, List.getElem_cons_succ, List.setIfInBounds_toArray, List.set_cons_zero, List.set_cons_succ])
            refine wpAnyH_done (by kernel_rfl) ?_ _
            clear hHeld
            have HOZ := hid_mk OZ9
            clear OZ9 s0 s1 s2 s3 s4 f0 c3
            go_wp2
            go_ret
            exact ⟨rfl, HO13.out.trans HOZ.out⟩
    · have hk := HK.out
      have k0' : (0 : Int) ≤ (k : Int) := by omega
      have k1' : (1 : Int) ≤ (k : Int) := by omega
      have k2' : (k : Int) ≤ 16 := by omega
      have r0 : (0 : Int) ≤ rm := by omega
      have r1 : rm / 64 = (k : Int) := by omega
      have HPl := hid_mk hpl
      clear z3 hrm hpl HCase hk
      have HO9 := hid_mk HO8.out
      have HS9 := hid_mk HS8.out
      obtain ⟨vx, cx, _⟩ := HS9.out.2.2.2.2.2
      have c0 := cx.cells.1
      have HOc := hid_mk HO9.out
      have HO9f := hid_mk (HO7.out.trans HO9.out)
      clear cx
      go_wp2_with fail
      rw [r1]
      clear r1 c0
      go_loopw [15, 17] (fun v u wr => ∃ vv yy : Int, v = .int .i64 vv ∧ u = .int .i64 yy ∧ yy ≤ (N : Int) - (k : Int) ∧ LowInv st.S N k yy vv ∧ wr = Z8) (fun _ u _ => (intOf u + 1).toNat)
      case atStart => exact ⟨-1, _, rfl, rfl, Int.le_refl _, low_start _ _ _, rfl⟩
      case round =>
        obtain ⟨vv, yy, rfl, rfl, y1, hLo, hwr⟩ := hrel
        subst hwr
        by_cases hy : 0 ≤ yy
        · obtain ⟨yn, rfl⟩ : ∃ yn : Nat, yy = (yn : Int) := ⟨yy.toNat, by omega⟩
          obtain ⟨Y, hY⟩ : ∃ Y : Nat, (64 : Int) * (yn : Int) = (Y : Int) := ⟨64 * yn, by omega⟩
          have Y0 : (0 : Int) ≤ (Y : Int) := by omega
          have Y1 : (Y : Int) ≤ 768 := by omega
          have HLo := hid_mk hLo
          rcases hLo with ⟨e, _⟩ | ⟨q, e, q1, q2, q3, q4⟩
          · subst e
            go_wp2_with fail
            go_loopw [18, 19] (fun f u wq => ∃ i : Nat, f = .bool (allF st.S yn i) ∧ u = .int .i64 (i : Int) ∧ i ≤ k ∧ wq = wr) (fun _ u _ => k - (intOf u).toNat)
            case atStart => exact ⟨0, rfl, rfl, Nat.zero_le _, rfl⟩
            case round =>
              obtain ⟨i, rfl, rfl, i1, hwq⟩ := hrel
              subst hwq
              have i0 : (0 : Int) ≤ (i : Int) := by omega
              by_cases hi : i < k
              · have i2 : (i : Int) < (k : Int) := by omega
                cases haf : allF st.S yn i with
                | false =>
                  go_wp2_with fail
                  exact ⟨⟨i + 1, by rw [allF_succ, haf]; rfl, by congr 1, by omega, by trivial⟩, by simp [intOf] <;> omega⟩
                | true =>
                  obtain ⟨x, hx⟩ : ∃ x, yn + i = x := ⟨_, rfl⟩
                  have x0 : (yn : Int) + (i : Int) = (x : Int) := by omega
                  have x1 : (0 : Int) ≤ (x : Int) := by omega
                  have x2 : (x : Int) < (N : Int) := by omega
                  have dP := HOc.out.cell HDP.out (.inr (Nat.zero_le _))
                  have dK := HOc.out.cell (HPg.out x (by omega)) (.inr (Nat.zero_le _))
                  obtain ⟨kk, hkk⟩ : ∃ kk, (st.S x).1 = kk := ⟨_, rfl⟩
                  rw [fP_0, Nat.add_zero, hkk] at dK
                  have hfb : freeB (st.S (yn + i)) = decide (kk = 0) := by unfold freeB; rw [hx, hkk]; by_cases e : kk = 0 <;> simp [e]
                  have HFb := hid_mk (And.intro haf hfb)
                  clear haf hfb hx hkk
                  by_cases hk0 : kk = 0
                  · go_wp2_with fail
                    exact ⟨⟨i + 1, by rw [allF_succ, HFb.out.1, HFb.out.2]; simp [hk0], by congr 1, by omega, by trivial⟩, by simp [intOf] <;> omega⟩
                  · go_wp2_with fail
                    exact ⟨⟨i + 1, by rw [allF_succ, HFb.out.1, HFb.out.2]; simp [hk0], by congr 1, by omega, by trivial⟩, by simp [intOf] <;> omega⟩
              · have e : i = k := by omega
                subst e
                cases haf : allF st.S yn i with
                | true =>
                  have HLY := hid_mk (low_yes HLo.out (by omega) haf)
                  clear haf
                  go_wp2_with fail
                  refine ⟨⟨((64 * yn : Nat) : Int), (yn : Int) - 1, by congr 1; omega, rfl, by omega, HLY.out, by trivial⟩, by simp [intOf] <;> omega⟩
                | false =>
                  have HLY := hid_mk (low_no HLo.out haf)
                  clear haf
                  go_wp2_with fail
                  refine ⟨⟨_, (yn : Int) - 1, rfl, rfl, by omega, HLY.out, by trivial⟩, by simp [intOf] <;> omega⟩
          · obtain ⟨Q, hQ⟩ : ∃ Q, 64 * q = Q := ⟨_, rfl⟩
            rw [hQ] at e
            subst e
            have s0 : (0 : Int) ≤ (Q : Int) := by omega
            have s6 : (Q : Int) ≤ 768 := by omega
            have s1 : (Q : Int) % 64 = 0 := by omega
            have s2 : (Y : Int) ≤ (Q : Int) := by omega
            have s3 : (Q : Int) / 64 = (q : Int) := by omega
            have s4 : (0 : Int) ≤ (q : Int) := by omega
            have hk1 : 1 ≤ k := by omega
            have s5 : (q : Int) < (N : Int) := by omega
            have dP := HOc.out.cell HDP.out (.inr (Nat.zero_le _))
            have dK := HOc.out.cell (HPg.out q (by omega)) (.inr (Nat.zero_le _))
            have hf := allF_iff.1 q3 q (Nat.le_refl _) (by omega)
            have hf0 : (st.S q).1 = 0 := by unfold freeB at hf; simpa using hf
            rw [fP_0, Nat.add_zero, hf0] at dK
            clear q3 q4 hf hf0 q1 q2 hk1 hQ
            go_wp2_with fail
            clear dP dK
            go_loopw [18, 19] (fun f u wq => ∃ i : Nat, f = .bool (allF st.S yn i) ∧ u = .int .i64 (i : Int) ∧ i ≤ k ∧ wq = wr) (fun _ u _ => k - (intOf u).toNat)
            case atStart => exact ⟨0, rfl, rfl, Nat.zero_le _, rfl⟩
            case round =>
              obtain ⟨i, rfl, rfl, i1, hwq⟩ := hrel
              subst hwq
              have i0 : (0 : Int) ≤ (i : Int) := by omega
              by_cases hi : i < k
              · have i2 : (i : Int) < (k : Int) := by omega
                cases haf : allF st.S yn i with
                | false =>
                  go_wp2_with fail
                  exact ⟨⟨i + 1, by rw [allF_succ, haf]; rfl, by congr 1, by omega, by trivial⟩, by simp [intOf] <;> omega⟩
                | true =>
                  obtain ⟨x, hx⟩ : ∃ x, yn + i = x := ⟨_, rfl⟩
                  have x0 : (yn : Int) + (i : Int) = (x : Int) := by omega
                  have x1 : (0 : Int) ≤ (x : Int) := by omega
                  have x2 : (x : Int) < (N : Int) := by omega
                  have dP := HOc.out.cell HDP.out (.inr (Nat.zero_le _))
                  have dK := HOc.out.cell (HPg.out x (by omega)) (.inr (Nat.zero_le _))
                  obtain ⟨kk, hkk⟩ : ∃ kk, (st.S x).1 = kk := ⟨_, rfl⟩
                  rw [fP_0, Nat.add_zero, hkk] at dK
                  have hfb : freeB (st.S (yn + i)) = decide (kk = 0) := by unfold freeB; rw [hx, hkk]; by_cases e : kk = 0 <;> simp [e]
                  have HFb := hid_mk (And.intro haf hfb)
                  clear haf hfb hx hkk
                  by_cases hk0 : kk = 0
                  · go_wp2_with fail
                    exact ⟨⟨i + 1, by rw [allF_succ, HFb.out.1, HFb.out.2]; simp [hk0], by congr 1, by omega, by trivial⟩, by simp [intOf] <;> omega⟩
                  · go_wp2_with fail
                    exact ⟨⟨i + 1, by rw [allF_succ, HFb.out.1, HFb.out.2]; simp [hk0], by congr 1, by omega, by trivial⟩, by simp [intOf] <;> omega⟩
              · have e : i = k := by omega
                subst e
                cases haf : allF st.S yn i with
                | true =>
                  have HLY := hid_mk (low_yes HLo.out (by omega) haf)
                  clear haf
                  go_wp2_with fail
                  refine ⟨⟨((64 * yn : Nat) : Int), (yn : Int) - 1, by congr 1; omega, rfl, by omega, HLY.out, by trivial⟩, by simp [intOf] <;> omega⟩
                | false =>
                  have HLY := hid_mk (low_no HLo.out haf)
                  clear haf
                  go_wp2_with fail
                  refine ⟨⟨_, (yn : Int) - 1, rfl, rfl, by omega, HLY.out, by trivial⟩, by simp [intOf] <;> omega⟩
        · have hk1 : 1 ≤ k := by omega
          rcases low_end hk1 (by omega) hLo with ⟨e, hro⟩ | ⟨q, e, hro⟩
          · subst e
            have hpl := HPl.out
            rw [hro] at hpl
            have HPl2 := hid_mk hpl
            clear hpl hro hLo
            have hal := al_right (t := kd) HI.out.1 HI.out.2.1 (fits3 HZ.out.1 HZ.out.2)
            rw [HPl2.out] at hal
            rcases hal with ⟨_, ha2⟩ | ⟨a', fr', hal, _⟩
            case inr => cases hal
            have HAl := hid_mk (alloc_is HS9.out.2.2.1 (by have := HZ.out; omega) (by have := HZ.out; omega) (by have := HLF.out; omega) ha2)
            have hb1 := HS9.out.1
            obtain ⟨vx, cx, _⟩ := HS9.out.2.2.2.2.2
            have c1 := cx.cells.2.1
            clear cx ha2
            go_wp2_with fail
            refine HAl.out.mono ?_
            rintro e w11 ⟨rfl, hs11, ho11⟩
            have HO11 := hid_mk (HO9f.out.past ho11 (by have := HQ.out; omega))
            clear hs11 ho11 c1 HAl
            go_wp2
            go_ret
            exact ⟨rfl, HO11.out.trans ((Out.refl 0 0 _).alloc _)⟩
          · obtain ⟨A, hA⟩ : ∃ A, 64 * q = A := ⟨_, rfl⟩
            obtain ⟨FR, hFR⟩ : ∃ FR, false = FR := ⟨_, rfl⟩
            have hpl := HPl.out
            rw [hro] at hpl
            replace hpl : placeF N st z = some (64 * q, false) := hpl
            rw [hFR, hA] at hpl
            rw [hA] at e
            subst e
            have HPl2 := hid_mk hpl
            clear hpl hFR hro hLo
            have hal := al_right (t := kd) HI.out.1 HI.out.2.1 (fits3 HZ.out.1 HZ.out.2)
            rw [HPl2.out] at hal
            rcases hal with ⟨hal, _⟩ | ⟨a', fr', hal, ha2, ha3, ha4, ha5, ha6, ha7⟩
            · cases hal
            injection hal with hal
            obtain ⟨rfl, rfl⟩ : A = a' ∧ FR = fr' := by injection hal with h1 h2; exact ⟨h1, h2⟩
            clear hal
            obtain ⟨st2, hst2⟩ : ∃ q, takeF N st A FR 3 z kd = q := ⟨_, rfl⟩
            obtain ⟨x, hx⟩ : ∃ x, st.last + 1 = x := ⟨_, rfl⟩
            have hsr : serOf st 3 = x := hx
            have hO2 : st2.O A = (3, z, x, kd) := by rw [← hst2, takeF_O, putO_self, hsr]
            rw [hst2] at ha2 ha3
            have hM : (rawOf N st2).M (A : Int) = some (3, z, x, kd) := by
              show obM st2 (A : Int) = _
              unfold obM
              rw [show ((A : Int)).toNat = A from by omega, hO2, if_pos ⟨by omega, rfl⟩]
            have HAl := hid_mk (alloc_is HS9.out.2.2.1 (by have := HZ.out; omega) (by have := HZ.out; omega) (by have := HLF.out; omega) ha2)
            have hb1 := HS9.out.1
            obtain ⟨vx, cx, _⟩ := HS9.out.2.2.2.2.2
            have c1 := cx.cells.2.1
            have HCx := hid_mk cx
            have HM := hid_mk hM
            have L0 : (0 : Int) ≤ st.last := HI.out.1.last0
            have L1 : st.last ≤ 120 := HLF.out
            have x0 : (0 : Int) ≤ x := by omega
            have x1 : x ≤ 121 := by omega
            have hwx : IntKind.i64.wrap x = x := by simp [IntKind.wrap, IntKind.signed, IntKind.bits]; omega
            have A0 : (0 : Int) ≤ (A : Int) := by omega
            clear hst2 hsr hO2 hM ha2 ha3 ha4 ha5 ha6 ha7 cx
            go_wp2_with fail
            refine HAl.out.mono ?_
            rintro e w11 ⟨rfl, hs11, ho11⟩
            have oA : Out 0 0 w11 (w11.alloc (.cells #[.int .i64 0, .int .i64 0] 57)) := (Out.refl 0 0 w11).alloc _
            clear c1
            have c1 := ((HCx.out.kept ho11 (.inl hb1.1)).kept oA (.inr (Nat.zero_le _))).cells.2.1
            have HBk := hid_mk (block_some (hs11.quiet oA).1 HM.out)
            have HO11 := hid_mk (HO9f.out.past ho11 (by have := HQ.out; omega))
            have HC11 := hid_mk (HCx.out.kept ho11 (.inl hb1.1))
            clear hs11 oA HAl ho11
            go_wp2_with fail
            refine HBk.out.mono ?_
            rintro e w12 ⟨rfl, ho12⟩
            obtain ⟨W12, hW12⟩ : ∃ W, w11.alloc (.cells #[.int .i64 0, .int .i64 0] 57) = W := ⟨_, rfl⟩
            obtain ⟨F, hF'⟩ : ∃ F, w11.heap.size = F := ⟨_, rfl⟩
            have oA : Out 0 0 w11 W12 := by rw [← hW12]; exact (Out.refl 0 0 w11).alloc _
            have fF : W12.heap[F]? = some (.cells #[.int .i64 0, .int .i64 0] 57 (0, 0)) := by rw [← hW12, ← hF']; exact heap_alloc_new _ _
            rw [hW12] at ho12 HBk
            (try rw [hW12])
            (try rw [hF'])
            clear hW12 hF' c1 HBk
            have HO12 := hid_mk (HO11.out.trans (oA.trans ho12))
            have HF12 := hid_mk (ho12.heap fF (.inr (Nat.zero_le _)))
            have HC12 := hid_mk (HC11.out.kept (oA.trans ho12) (.inr (Nat.zero_le _)))
            clear oA fF ho12
            go_wp2_with fail
            obtain ⟨W13, hW13⟩ : ∃ W, w12.alloc (.cells #[.int .i64 (A : Int), .int .i64 3, .int .i64 z, .int .i64 x, .int .i64 kd] 36) = W := ⟨_, rfl⟩
            obtain ⟨B9, hB9⟩ : ∃ B, w12.heap.size = B := ⟨_, rfl⟩
            have o13 : Out 0 0 w12 W13 := by rw [← hW13]; exact (Out.refl 0 0 w12).alloc _
            have fB : W13.heap[B9]? = some (bo (A : Int) 3 z x kd) := by rw [← hW13, ← hB9]; exact heap_alloc_new _ _
            obtain ⟨s0, s1, s2, s3, s4⟩ := bo_facts fB
            have f0 : W13.cell? ⟨F, 0, none⟩ = some (.int .i64 0) := by
              have := o13.heap HF12.out (.inr (Nat.zero_le _))
              simp [World.cell?, this]
            have c3 := (HC12.out.kept o13 (.inr (Nat.zero_le _))).cells.2.2.2.1
            have HO13 := hid_mk (HO12.out.trans o13)
            rw [hW13]
            (try rw [hB9])
            clear hW13 hB9 o13 fB
            refine wp_region_held_drew (S := fun w' => w'.cell? ⟨F, 0, none⟩ = some (.int .i64 0) ∧ w'.cell? ⟨b, 3, none⟩ = some (.int .i64 st.last) ∧ w'.cell? ⟨B9, 0, none⟩ = some (.int .i64 (A : Int)) ∧ w'.cell? ⟨B9, 1, none⟩ = some (.int .i64 3) ∧ w'.cell? ⟨B9, 2, none⟩ = some (.int .i64 z) ∧ w'.cell? ⟨B9, 3, none⟩ = some (.int .i64 x) ∧ w'.cell? ⟨B9, 4, none⟩ = some (.int .i64 kd)) (by kernel_rfl) ?hS62 (fun hHeld => ?rest62)
            case hS62 => exact ⟨f0, c3, s0, s1, s2, s3, s4⟩
            obtain ⟨Z9, hZ⟩ : ∃ Z, W13.drew = Z := ⟨_, rfl⟩
            have OZ9 : Out 0 0 W13 Z9 := by rw [← hZ]; exact (Out.refl 0 0 W13).drew
            rw [hZ] at hHeld ⊢
            clear hZ
            refine wpAnyH_take (i := 0) (v := ?v63) rfl (by kernel_rfl) (by kernel_rfl) (by kernel_rfl) (fun _ _ _ h => h) (Or.inl ⟨by rfl, ?hy63⟩) (by assumption) ?rest63
            case hy63 => (intro w hSw; (try dsimp only at hSw); simp only [List.getElem_toArray, List.getElem_cons_zero, List.getElem_cons_succ]; go_simp; (try with_reducible rfl))
            (try simp only [Act.put, List.getElem_toArray, List.getElem_cons_zero, List.getElem_cons_succ, List.setIfInBounds_toArray, List.set_cons_zero, List.set_cons_succ])
            refine wpAnyH_take (i := 1) (v := ?v64) rfl (by kernel_rfl) (by kernel_rfl) (by kernel_rfl) (fun _ _ _ h => h) (Or.inl ⟨by rfl, ?hy64⟩) (by assumption) ?rest64
            case hy64 => (intro w hSw; (try dsimp only at hSw); simp only [List.getElem_toArray, List.getElem_cons_zero, List.getElem_cons_succ]; go_simp; (try with_reducible rfl))
            (try simp only [Act.put, List.getElem_toArray, List.getElem_cons_zero, List.getElem_cons_succ, List.setIfInBounds_toArray, List.set_cons_zero, List.set_cons_succ])
            refine wpAnyH_take (i := 2) (v := ?v65) rfl (by kernel_rfl) (by kernel_rfl) (by kernel_rfl) (fun _ _ _ h => h) (Or.inl ⟨by rfl, ?hy65⟩) (by assumption) ?rest65
            case hy65 => (intro w hSw; (try dsimp only at hSw); simp only [List.getElem_toArray, List.getElem_cons_zero, List.getElem_cons_succ]; go_simp; (try with_reducible rfl))
            (try simp only [Act.put, List.getElem_toArray, List.getElem_cons_zero, List.getElem_cons_succ, List.setIfInBounds_toArray, List.set_cons_zero, List.set_cons_succ])
            refine wpAnyH_take (i := 3) (v := ?v66) rfl (by kernel_rfl) (by kernel_rfl) (by kernel_rfl) (fun _ _ _ h => h) (Or.inl ⟨by rfl, ?hy66⟩) (by assumption) ?rest66
            case hy66 => (intro w hSw; (try dsimp only at hSw); simp only [List.getElem_toArray, List.getElem_cons_zero, List.getElem_cons_succ]; go_simp; (try with_reducible rfl))
            (try simp only [Act.put, List.getElem_toArray, List.getElem_cons_zero, List.getElem_cons_succ, List.setIfInBounds_toArray, List.set_cons_zero, List.set_cons_succ])
            refine wpAnyH_take (i := 4) (v := ?v67) rfl (by kernel_rfl) (by kernel_rfl) (by kernel_rfl) (fun _ _ _ h => h) (Or.inl ⟨by rfl, ?hy67⟩) (by assumption) ?rest67
            case hy67 => (intro w hSw; (try dsimp only at hSw); simp only [List.getElem_toArray, List.getElem_cons_zero, List.getElem_cons_succ]; go_simp; (try with_reducible rfl))
            (try simp only [Act.put, List.getElem_toArray, List.getElem_cons_zero, List.getElem_cons_succ, List.setIfInBounds_toArray, List.set_cons_zero, List.set_cons_succ])
            refine wpAnyH_take (i := 5) (v := ?v68) rfl (by kernel_rfl) (by kernel_rfl) (by kernel_rfl) (fun _ _ _ h => h) (Or.inl ⟨by rfl, ?hy68⟩) (by assumption) ?rest68
            case hy68 => (intro w hSw; (try dsimp only at hSw); simp only [List.getElem_toArray, List.getElem_cons_zero, List.getElem_cons_succ]; go_simp; (try with_reducible rfl))
            (try simp only [Act.put, List.getElem_toArray, List.getElem_cons_zero, List.getElem_cons_succ, List.setIfInBounds_toArray, List.set_cons_zero, List.set_cons_succ])
            refine wpAnyH_take (i := 6) (v := ?v69) rfl (by kernel_rfl) (by kernel_rfl) (by kernel_rfl) (fun _ _ _ h => h) (Or.inl ⟨by rfl, ?hy69⟩) (by assumption) ?rest69
            case hy69 => (intro w hSw; (try dsimp only at hSw); simp only [List.getElem_toArray, List.getElem_cons_zero, List.getElem_cons_succ]; go_simp; (try with_reducible rfl))
            (try simp only [Act.put, List.getElem_toArray, List.getElem_cons_zero, List.getElem_cons_succ, List.setIfInBounds_toArray, List.set_cons_zero, List.set_cons_succ])
            refine wpAnyH_take (i := 7) (v := ?v70) rfl (by kernel_rfl) (by kernel_rfl) (by kernel_rfl) (fun _ _ _ h => h) (Or.inl ⟨by rfl, ?hy70⟩) (by assumption) ?rest70
            case hy70 => (intro w hSw; (try dsimp only at hSw); simp only [List.getElem_toArray, List.getElem_cons_zero, List.getElem_cons_succ]; go_simp; (try with_reducible rfl))
            (try simp only [Act.put, List.getElem_toArray, List.getElem_cons_zero, List.getElem_cons_succ, List.setIfInBounds_toArray, List.set_cons_zero, List.set_cons_succ])
            refine wpAnyH_take (i := 8) (v := ?v71) rfl (by kernel_rfl) (by kernel_rfl) (by kernel_rfl) (fun _ _ _ h => h) (Or.inl ⟨by rfl, ?hy71⟩) (by assumption) ?rest71
            case hy71 => (intro w hSw; (try dsimp only at hSw); simp only [List.getElem_toArray, List.getElem_cons_zero, List.getElem_cons_succ]; go_simp; (try with_reducible rfl))
            (try simp only [Act.put, List.getElem_toArray, List.getElem_cons_zero, List.getElem_cons_succ, List.setIfInBounds_toArray, List.set_cons_zero, List.set_cons_succ])
            refine wpAnyH_take (i := 9) (v := ?v72) rfl (by kernel_rfl) (by kernel_rfl) (by kernel_rfl) (fun _ _ _ h => h) (Or.inl ⟨by rfl, ?hy72⟩) (by assumption) ?rest72
            case hy72 => (intro w hSw; (try dsimp only at hSw); simp only [List.getElem_toArray, List.getElem_cons_zero, List.getElem_cons_succ]; go_simp; (try with_reducible rfl))
            (try simp only [Act.put, List.getElem_toArray, List.getElem_cons_zero, List.getElem_cons_succ, List.setIfInBounds_toArray, List.set_cons_zero, List.set_cons_succ])
            refine wpAnyH_take (i := 10) (v := ?v73) rfl (by kernel_rfl) (by kernel_rfl) (by kernel_rfl) (fun _ _ _ h => h) (Or.inl ⟨by rfl, ?hy73⟩) (by assumption) ?rest73
            case hy73 => (intro w hSw; (try dsimp only at hSw); simp only [List.getElem_toArray, List.getElem_cons_zero, List.getElem_cons_succ]; go_simp; (try with_reducible rfl))
            (try simp only [Act.put, List.getElem_toArray, List.getElem_cons_zero, List.getElem_cons_succ, List.setIfInBounds_toArray, List.set_cons_zero, List.set_cons_succ])
            refine wpAnyH_take (i := 11) (v := ?v74) rfl (by kernel_rfl) (by kernel_rfl) (by kernel_rfl) (fun _ _ _ h => h) (Or.inl ⟨by rfl, ?hy74⟩) (by assumption) ?rest74
            case hy74 => (intro w hSw; (try dsimp only at hSw); simp only [List.getElem_toArray, List.getElem_cons_zero, List.getElem_cons_succ]; go_simp; (try with_reducible rfl))
            (try simp only [Act.put, List.getElem_toArray, List.getElem_cons_zero, List.getElem_cons_succ, List.setIfInBounds_toArray, List.set_cons_zero, List.set_cons_succ])
            refine wpAnyH_take (i := 12) (v := ?v75) rfl (by kernel_rfl) (by kernel_rfl) (by kernel_rfl) (fun _ _ _ h => h) (Or.inl ⟨by rfl, ?hy75⟩) (by assumption) ?rest75
            case hy75 => (intro w hSw; (try dsimp only at hSw); simp only [List.getElem_toArray, List.getElem_cons_zero, List.getElem_cons_succ]; go_simp; (try with_reducible rfl))
            (try simp only [Act.put, List.getElem_toArray, List.getElem_cons_zero, List.getElem_cons_succ, List.setIfInBounds_toArray, List.set_cons_zero, List.set_cons_succ])
            refine wpAnyH_take (i := 13) (v := ?v76) rfl (by kernel_rfl) (by kernel_rfl) (by kernel_rfl) (fun _ _ _ h => h) (Or.inl ⟨by rfl, ?hy76⟩) (by assumption) ?rest76
            case hy76 => (intro w hSw; (try dsimp only at hSw); simp only [List.getElem_toArray, List.getElem_cons_zero, List.getElem_cons_succ]; go_simp; (try with_reducible rfl))
            (try simp only [Act.put, List.getElem_toArray, List.getElem_cons_zero, List.getElem_cons_succ, List.setIfInBounds_toArray, List.set_cons_zero, List.set_cons_succ])
            refine wpAnyH_take (i := 14) (v := ?v77) rfl (by kernel_rfl) (by kernel_rfl) (by kernel_rfl) (fun _ _ _ h => h) (Or.inl ⟨by rfl, ?hy77⟩) (by assumption) ?rest77
            case hy77 => (intro w hSw; (try dsimp only at hSw); simp only [List.getElem_toArray, List.getElem_cons_zero, List.getElem_cons_succ]; go_simp; (try with_reducible rfl))
            (try simp only [Act.put, List.getElem_toArray, List.getElem_cons_zero, List.getElem_cons_succ, List.setIfInBounds_toArray, List.set_cons_zero, List.set_cons_succ])
            refine wpAnyH_take (i := 15) (v := ?v78) rfl (by kernel_rfl) (by kernel_rfl) (by kernel_rfl) (fun _ _ _ h => h) (Or.inl ⟨by rfl, ?hy78⟩) (by assumption) ?rest78
            case hy78 => (intro w hSw; (try dsimp only at hSw); simp only [List.getElem_toArray, List.getElem_cons_zero, List.getElem_cons_succ]; go_simp; (try with_reducible rfl))
            (try simp only [Act.put, List.getElem_toArray, List.getElem_cons_zero, List.getElem_cons_succ, List.setIfInBounds_toArray, List.set_cons_zero, List.set_cons_succ])
            refine wpAnyH_take (i := 16) (v := ?v79) rfl (by kernel_rfl) (by kernel_rfl) (by kernel_rfl) (fun _ _ _ h => h) (Or.inl ⟨by rfl, ?hy79⟩) (by assumption) ?rest79
            case hy79 => (intro w hSw; (try dsimp only at hSw); simp only [List.getElem_toArray, List.getElem_cons_zero, List.getElem_cons_succ]; go_simp; (try with_reducible rfl))
            (try simp only [Act.put, List.getElem_toArray, List.getElem_cons_zero, List.getElem_cons_succ, List.setIfInBounds_toArray, List.set_cons_zero, List.set_cons_succ])
            refine wpAnyH_take (i := 17) (v := ?v80) rfl (by kernel_rfl) (by kernel_rfl) (by kernel_rfl) (fun _ _ _ h => h) (Or.inl ⟨by rfl, ?hy80⟩) (by assumption) ?rest80
            case hy80 => (intro w hSw; (try dsimp only at hSw); simp only [List.getElem_toArray, List.getElem_cons_zero, List.getElem_cons_succ]; go_simp; (try with_reducible rfl))
            (try simp only [Act.put, List.getElem_toArray, List.getElem_cons_zero, List.getElem_cons_succ, List.setIfInBounds_toArray, List.set_cons_zero, List.set_cons_succ])
            refine wpAnyH_take (i := 18) (v := ?v81) rfl (by kernel_rfl) (by kernel_rfl) (by kernel_rfl) (fun _ _ _ h => h) (Or.inl ⟨by rfl, ?hy81⟩) (by assumption) ?rest81
            case hy81 => (intro w hSw; (try dsimp only at hSw); simp only [List.getElem_toArray, List.getElem_cons_zero, List.getElem_cons_succ]; go_simp; (try with_reducible rfl))
            (try simp only [Act.put, List.getElem_toArray, List.getElem_cons_zero, List.getElem_cons_succ, List.setIfInBounds_toArray, List.set_cons_zero, List.set_cons_succ])
            refine wpAnyH_take (i := 19) (v := ?v82) rfl (by kernel_rfl) (by kernel_rfl) (by kernel_rfl) (fun _ _ _ h => h) (Or.inl ⟨by rfl, ?hy82⟩) (by assumption) ?rest82
            case hy82 => (intro w hSw; (try dsimp only at hSw); simp only [List.getElem_toArray, List.getElem_cons_zero, List.getElem_cons_succ]; go_simp; (try with_reducible rfl))
            (try simp only [Act.put, List.getElem_toArray, List.getElem_cons_zero, List.getElem_cons_succ, List.setIfInBounds_toArray, List.set_cons_zero, List.set_cons_succ])
            refine wpAnyH_take (i := 20) (v := ?v83) rfl (by kernel_rfl) (by kernel_rfl) (by kernel_rfl) (fun _ _ _ h => h) (Or.inl ⟨by rfl, ?hy83⟩) (by assumption) ?rest83
            case hy83 => (intro w hSw; (try dsimp only at hSw); simp only [List.getElem_toArray, List.getElem_cons_zero, List.getElem_cons_succ]; go_simp; (try with_reducible rfl))
            (try simp only [Act.put, List.getElem_toArray, List.getElem_cons_zero, List.getElem_cons_succ, List.setIfInBounds_toArray, List.set_cons_zero, List.set_cons_succ])
            refine wpAnyH_take (i := 21) (v := ?v84) rfl (by kernel_rfl) (by kernel_rfl) (by kernel_rfl) (fun _ _ _ h => h) (Or.inl ⟨by rfl, ?hy84⟩) (by assumption) ?rest84
            case hy84 => (intro w hSw; (try dsimp only at hSw); simp only [List.getElem_toArray, List.getElem_cons_zero, List.getElem_cons_succ]; go_simp; (try with_reducible rfl))
            (try simp only [Act.put, List.getElem_toArray, List.getElem_cons_zero, List.getElem_cons_succ, List.setIfInBounds_toArray, List.set_cons_zero, List.set_cons_succ])
            refine wpAnyH_take (i := 22) (v := ?v85) rfl (by kernel_rfl) (by kernel_rfl) (by kernel_rfl) (fun _ _ _ h => h) (Or.inl ⟨by rfl, ?hy85⟩) (by assumption) ?rest85
            case hy85 => (intro w hSw; (try dsimp only at hSw); simp only [List.getElem_toArray, List.getElem_cons_zero, List.getElem_cons_succ]; go_simp; (try with_reducible rfl))
            (try simp only [Act.put, List.getElem_toArray, List.getElem_cons_zero, List.getElem_cons_succ, List.setIfInBounds_toArray, List.set_cons_zero, List.set_cons_succ])
            refine wpAnyH_take (i := 23) (v := ?v86) rfl (by kernel_rfl) (by kernel_rfl) (by kernel_rfl) (fun _ _ _ h => h) (Or.inl ⟨by rfl, ?hy86⟩) (by assumption) ?rest86
            case hy86 => (intro w hSw; (try dsimp only at hSw); simp only [List.getElem_toArray, List.getElem_cons_zero, List.getElem_cons_succ]; go_simp; (try with_reducible rfl))
            (try simp only [Act.put, List.getElem_toArray, List.getElem_cons_zero, List.getElem_cons_succ, List.setIfInBounds_toArray, List.set_cons_zero, List.set_cons_succ])
            refine wpAnyH_take (i := 24) (v := ?v87) rfl (by kernel_rfl) (by kernel_rfl) (by kernel_rfl) (fun _ _ _ h => h) (Or.inl ⟨by rfl, ?hy87⟩) (by assumption) ?rest87
            case hy87 => (intro w hSw; (try dsimp only at hSw); simp only [List.getElem_toArray, List.getElem_cons_zero, List.getElem_cons_succ]; go_simp; (try with_reducible rfl))
            (try simp only [Act.put, List.getElem_toArray, List.getElem_cons_zero, List.getElem_cons_succ, List.setIfInBounds_toArray, List.set_cons_zero, List.set_cons_succ])
            refine wpAnyH_done (by kernel_rfl) ?_ _
            clear hHeld
            have HOZ := hid_mk OZ9
            clear OZ9 s0 s1 s2 s3 s4 f0 c3
            go_wp2
            go_ret
            exact ⟨rfl, HO13.out.trans HOZ.out⟩
end Go.Proofs.YtjbbkeoolodeaabDoor
