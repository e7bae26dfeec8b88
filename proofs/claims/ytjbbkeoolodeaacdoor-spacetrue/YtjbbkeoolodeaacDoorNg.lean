import Derived.Test.YtjbbkeoolodeaacDoorNf
import Derived.Test.YtjbbkeoolodeaacDoorMq
namespace Go.Proofs.YtjbbkeoolodeaacDoor
open Go.RowKit
set_option linter.unusedVariables false
set_option linter.unusedSimpArgs false

theorem wst_new {w : World} {b N lo hi cap : Nat} {s : Nat → Nat} (hb : b < lo) (hg : 4 ≤ b) (hs : SpAt w lo hi s N cap newSp) (hw : WAt w b N (s 14) (.slice none 0 0) 0) : WSt w b N lo hi cap s w newSp [] :=
  ⟨⟨hb, by have := hs.1.inn 14 (by omega); simp [ln] at this; omega, hs.1.top, hg⟩, Out.refl _ _ _, hs, bare_rt (bare_new N), obl_new, _, hw, ⟨rfl, .inl ⟨rfl, rfl⟩⟩⟩
theorem al_next {n : Nat} {st st2 : Sp} {z v er ea : Int} (hi : Inv n st) (hR : Rt n st) (h : alF n st 3 z 0 = (v, er, ea, st2)) (he : er = 0) : Rt n st2 ∧ st2.last ≤ st.last + 1 := by
  cases hf : fitsB 3 z with
  | false =>
    have ha : alF n st 3 z 0 = (0, 24, 0, st) := by unfold alF; rw [hf]; rfl
    rw [ha] at h
    simp at h
    omega
  | true =>
    rcases al_right (t := 0) hi hR hf with ⟨_, a2⟩ | ⟨a, fresh, _, a2, _, a4, _, _, _⟩
    · rw [a2] at h
      simp at h
      omega
    · rw [a2] at h
      simp at h
      obtain ⟨_, _, _, rfl⟩ := h
      refine ⟨a4, ?_⟩
      show lastOf st 3 ≤ _
      unfold lastOf; split <;> omega
set_option maxRecDepth 100000 in
set_option maxHeartbeats 16000000 in
theorem true_any {w : World} (hT : Tab w) (n0 : Int) (hn : -9223372036854775808 ≤ n0 ∧ n0 ≤ 9223372036854775807) {os : List OpQ} {p : Option Addr} {cp : Nat} (hS : ScrAt w w.heap.size p os) {zs : List Int} {zp : Option Addr} {zc : Nat} (hZ : SlI w w.heap.size zp zs) :
    Calls Tryd.prog 3 #[.int .i64 n0, .slice p os.length cp, .slice zp zs.length zc] w fun e w' => e = .returned (.bool true) ∧ Out 0 0 w w' := by
  have HSm := hid_mk (small_any (cp := cp) hS)
  have HAl := hid_mk (fun w' (hT' : Tab w') => alive_any hT')
  have HT := hid_mk hT
  have HS := hid_mk hS
  have HZ := hid_mk hZ
  have HNb := hid_mk hn
  have z0 : (0 : Int) ≤ (zs.length : Int) := by omega
  obtain ⟨m, hm, hm2⟩ := wth_nat n0 12 (by decide)
  obtain ⟨N, hN⟩ : ∃ N : Nat, 1 + wth n0 12 = (N : Int) := ⟨1 + m, by rw [hm]; push_cast; rfl⟩
  have HN : Hid (1 ≤ N ∧ N ≤ 12) := by show _ ∧ _; omega
  have HBg := hid_mk (fun w' (hT' : Tab w') => begun_any hT' n0 hn.1 hn.2 hN)
  clear hT hS hZ hn hm hm2 hN
  go_enter Tryd.func3, Tryd.ntmps3
  go_wp2_with fail
  refine HSm.out.mono ?_
  rintro e wx ⟨hwx, r, rfl, hr⟩
  rw [hwx]
  clear HSm hwx wx
  cases r with
  | false =>
    clear hr
    go_wp2_with (go_at_call 6; refine (HAl.out _ HT.out).mono ?_; rintro e w2 ⟨rfl, ho⟩)
    go_ret
    exact ⟨rfl, ho⟩
  | true =>
    have hr' := hr rfl
    have HR := hid_mk hr'
    clear hr hr'
    by_cases hz4 : zs.length ≤ 400
    case neg =>
      have z4 : (400 : Int) < (zs.length : Int) := by omega
      go_wp2_with (go_at_call 6; refine (HAl.out _ HT.out).mono ?_; rintro e w2 ⟨rfl, ho⟩)
      go_ret
      exact ⟨rfl, ho⟩
    case pos =>
    have z4 : ¬ (400 : Int) < (zs.length : Int) := by omega
    have z5 : decide ((400 : Int) < (zs.length : Int)) = false := decide_eq_false z4
    have z6 : (zs.length : Int) ≤ 400 := by omega
    have HZ4 := hid_mk hz4
    go_wp2_with fail
    refine (HBg.out _ HT.out).mono ?_
    rintro e w1 ⟨b1, lo1, hi1, s1, cap1, rfl, hw1, hs1, hb1, hl1, ho1⟩
    have H1 := hid_mk (And.intro hw1 (And.intro hs1 (And.intro hb1 (And.intro hl1 ho1))))
    clear hw1 hs1 hb1 hl1 ho1 hz4
    go_wp2_with fail
    refine (HBg.out _ (HT.out.quiet H1.out.2.2.2.2)).mono ?_
    rintro e w2 ⟨b2, lo2, hi2, s2, cap2, rfl, hw2, hs2, hb2, hl2, ho2⟩
    have H2 := hid_mk (And.intro hw2 (And.intro hs2 (And.intro hb2 (And.intro hl2 ho2))))
    have HA2 := hid_mk (HAl.out _ (HT.out.quiet (H1.out.2.2.2.2.trans ho2)))
    clear hw2 hs2 hb2 hl2 ho2 HAl HBg
    go_wp2_with fail
    refine HA2.out.mono ?_
    rintro e w3 ⟨rfl, ho3⟩
    -- both worlds stand in w3
    have o13 := H2.out.2.2.2.2.trans ho3
    have hsp1 := H1.out.2.1.quiet o13
    have hsp2 := H2.out.2.1.quiet ho3
    have hwa1 := H1.out.1.kept o13 (.inr (Nat.zero_le _))
    have hwa2 := H2.out.1.kept ho3 (.inr (Nat.zero_le _))
    have ow3 := H1.out.2.2.2.2.trans o13
    have hT0 := HT.out.lt
    have hq1 := H1.out.2.2.1
    have hq2 := H1.out.2.2.2.1
    have hq3 := H2.out.2.2.1
    have hq4 := H2.out.2.2.2.1
    have hq5 := H1.out.2.1.1.top
    have hq6 := H1.out.2.2.2.2.size
    have hst1 := wst_new hq2 (by omega) hsp1 hwa1
    have hsc := (HS.out.kept ow3 (.inr rfl)).mono (b' := b1) (by omega)
    have HP1 := hid_mk (played_any (cp := cp) hst1 HN.out.2 (Int.le_refl 0) hsc HR.out (by have := hwa1.lt; exact this))
    have HQ := hid_mk (And.intro hsp2 (And.intro hwa2 (And.intro ow3 (And.intro hq1 (And.intro hq2 (And.intro hq3 (And.intro hq4 hq5)))))))
    clear o13 hsp1 hsp2 hwa1 hwa2 ow3 hT0 hst1 hsc ho3 HA2 H1 H2
    go_wp2_with fail
    refine HP1.out.mono ?_
    rintro e w4 ⟨rfl, hst4⟩
    obtain ⟨⟨stF, lF⟩, hF⟩ : ∃ q, plP N (newSp, []) os (min os.length 120) = q := ⟨_, rfl⟩
    rw [hF] at hst4
    have hlF := pl_last N (newSp, []) os (min os.length 120)
    rw [hF] at hlF
    have HLF : Hid (stF.last ≤ 120) := by
      have : stF.last ≤ 0 + ((min os.length 120 : Nat) : Int) := hlF
      show stF.last ≤ 120
      omega
    clear hlF
    have o4 := hst4.2.1
    have hsp2 := HQ.out.1.kept o4 (.inr (by omega)) (.inl (by have := HT.out.lt; omega))
    have hwa2 := HQ.out.2.1.kept o4 (.inr (by omega))
    have hb2g : 4 ≤ b2 := by have := HT.out.lt; omega
    have hst2 := wst_new hq4 hb2g hsp2 hwa2
    have ow4 : Out 0 0 w w4 := HQ.out.2.2.1.past o4 hq1
    have hsc := (HS.out.kept ow4 (.inr rfl)).mono (b' := b2) (by omega)
    have hP2 := played_any (cp := cp) hst2 HN.out.2 (Int.le_refl 0) hsc HR.out (by have := hwa2.lt; exact this)
    rw [hF] at hP2
    have HP2 := hid_mk hP2
    have H4 := hid_mk (And.intro hst4 ow4)
    clear hst4 o4 hsp2 hwa2 hst2 ow4 hsc hP2 HP1
    go_wp2_with fail
    refine HP2.out.mono ?_
    rintro e w5 ⟨rfl, hst5⟩
    have o5 := hst5.2.1
    have hq7 := H4.out.1.1.2.1
    have hA5 := H4.out.1.2.2.1.kept o5 (.inl (by omega)) (.inl (by omega))
    obtain ⟨v4, hv4, _⟩ := H4.out.1.2.2.2.2.2
    have hW5 := hv4.kept o5 (.inl (by omega))
    obtain ⟨v5, hv5, _⟩ := hst5.2.2.2.2.2
    have ow5 : Out 0 0 w w5 := H4.out.2.past o5 (by omega)
    have HS5 := hid_mk (And.intro hA5 (And.intro hst5.2.2.1 (And.intro hst5.2.2.2.1 ow5)))
    have a1 := hW5.cells.2.1
    have HWW := hid_mk (And.intro hW5 hv5)
    have HD1 := hid_mk (dumpE hA5)
    have HOd := hid_mk (And.intro hq1 (And.intro hq2 (And.intro hq3 (And.intro hq4 (And.intro hq5 hq6)))))
    clear o5 hA5 hv4 hW5 hv5 ow5 hst5 HP2 H4 HQ hq1 hq2 hq3 hq4 hq5 hq6 hq7 hF hb2g
    obtain ⟨q, hq⟩ : ∃ q, (objsTo (rawOf N stF) (64 * N)).length = q := ⟨_, rfl⟩
    have hql := objs_len (rawOf N stF) (64 * N)
    rw [hq] at HD1 hql
    have HI1 : Hid (((64 * N : Nat) : Int) ≤ 100000) := by have := HN.out; show _ ≤ _; omega
    have HI2 : Hid (((N : Nat) : Int) ≤ 100000) := by have := HN.out; show _ ≤ _; omega
    have HI3 : Hid (((q : Nat) : Int) ≤ 100000) := by have := HN.out; show _ ≤ _; omega
    have HDq : Hid (∀ {w' : World} {lo hi cap : Nat} {s : Nat → Nat}, True) := fun {_ _ _ _ _} => trivial
    have HQl := hid_mk hq
    clear hql hq HDq
    go_wp2_with fail
    refine HD1.out.mono ?_
    rintro e w6 ⟨xo0, xo1, xo2, xc0, xc1, xc2, xh0, xh1, xh2, xh3, xh4, xh5, xh6, xh7, rfl, d1, d2, d3, ho6⟩
    have H6 := hid_mk (And.intro d1 (And.intro d2 (And.intro d3 ho6)))
    clear d1 d2 d3 ho6 HD1 a1
    go_wp2_with fail
    obtain ⟨W7, hW7⟩ : ∃ W, w6.alloc (.cells #[.slice xo0 (64 * N) xc0, .slice xo1 N xc1, .slice xo2 q xc2, .int .i64 xh0, .int .i64 xh1, .int .i64 xh2, .int .i64 xh3, .int .i64 xh4, .int .i64 xh5, .int .i64 xh6, .int .i64 xh7, .int .i64 stF.last] 32) = W := ⟨_, rfl⟩
    obtain ⟨x, hx⟩ : ∃ B, w6.heap.size = B := ⟨_, rfl⟩
    have o7 : Out 0 0 w6 W7 := by rw [← hW7]; exact (Out.refl 0 0 _).alloc _
    have HX7 : Hid (W7.heap[x]? = some (.cells #[.slice xo0 (64 * N) xc0, .slice xo1 N xc1, .slice xo2 q xc2, .int .i64 xh0, .int .i64 xh1, .int .i64 xh2, .int .i64 xh3, .int .i64 xh4, .int .i64 xh5, .int .i64 xh6, .int .i64 xh7, .int .i64 stF.last] 32 (0, 0))) := by rw [← hW7, ← hx]; exact heap_alloc_new _ _
    have o57 := H6.out.2.2.2.trans o7
    have HS7 := hid_mk (And.intro (HS5.out.1.quiet o57) (And.intro (HS5.out.2.1.quiet o57) HS5.out.2.2.1))
    have HO7 := hid_mk (HS5.out.2.2.2.trans o57)
    have HX := hid_mk (And.intro (H6.out.1.quiet o7) (And.intro (H6.out.2.1.quiet o7) (H6.out.2.2.1.quiet o7)))
    have HW7 := hid_mk (And.intro (HWW.out.1.kept o57 (.inr (Nat.zero_le _))) (HWW.out.2.kept o57 (.inr (Nat.zero_le _))))
    have a1 := HW7.out.1.cells.2.1
    rw [hW7, hx]
    clear hW7 hx o7 o57 H6 HS5 HWW
    refine wp_region_held_drew (S := fun w' => w'.cell? ⟨b1, 1, none⟩ = some (.pointer (some ⟨s1 14, 0, none⟩))) (by kernel_rfl) ?hS1 (fun hHeld => ?rest1)
    case hS1 => exact a1
    obtain ⟨Z8, hZ⟩ : ∃ Z, W7.drew = Z := ⟨_, rfl⟩
    have OZ8 : Out 0 0 W7 Z8 := by rw [← hZ]; exact (Out.refl 0 0 W7).drew
    rw [hZ] at hHeld ⊢
    clear hZ
    refine wpAnyH_take (i := 0) (v := ?v2) rfl (by kernel_rfl) (by kernel_rfl) (by kernel_rfl) (fun _ _ _ h => h) (Or.inl ⟨by rfl, ?hy2⟩) (by assumption) ?rest2
    case hy2 => (intro w hSw; (try dsimp only at hSw); simp only [List.getElem_toArray, List.getElem_cons_zero, List.getElem_cons_succ]; go_simp; (try with_reducible rfl))
    (try simp only [Act.put, List.getElem_toArray, List.getElem_cons_zero, List.getElem_cons_succ, List.setIfInBounds_toArray, List.set_cons_zero, List.set_cons_succ])
    refine wpAnyH_take (i := 1) (v := ?v3) rfl (by kernel_rfl) (by kernel_rfl) (by kernel_rfl) (fun _ _ _ h => h) (Or.inl ⟨by rfl, ?hy3⟩) (by assumption) ?rest3
    case hy3 => (intro w hSw; (try dsimp only at hSw); simp only [List.getElem_toArray, List.getElem_cons_zero, List.getElem_cons_succ]; go_simp; (try with_reducible rfl))
    (try simp only [Act.put, List.getElem_toArray, List.getElem_cons_zero, List.getElem_cons_succ, List.setIfInBounds_toArray, List.set_cons_zero, List.set_cons_succ])
    refine wpAnyH_take (i := 2) (v := ?v4) rfl (by kernel_rfl) (by kernel_rfl) (by kernel_rfl) (fun _ _ _ h => h) (Or.inl ⟨by rfl, ?hy4⟩) (by assumption) ?rest4
    case hy4 => (intro w hSw; (try dsimp only at hSw); simp only [List.getElem_toArray, List.getElem_cons_zero, List.getElem_cons_succ]; go_simp; (try with_reducible rfl))
    (try simp only [Act.put, List.getElem_toArray, List.getElem_cons_zero, List.getElem_cons_succ, List.setIfInBounds_toArray, List.set_cons_zero, List.set_cons_succ])
    refine wpAnyH_take (i := 3) (v := ?v5) rfl (by kernel_rfl) (by kernel_rfl) (by kernel_rfl) (fun _ _ _ h => h) (Or.inl ⟨by rfl, ?hy5⟩) (by assumption) ?rest5
    case hy5 => (intro w hSw; (try dsimp only at hSw); simp only [List.getElem_toArray, List.getElem_cons_zero, List.getElem_cons_succ]; go_simp; (try with_reducible rfl))
    (try simp only [Act.put, List.getElem_toArray, List.getElem_cons_zero, List.getElem_cons_succ, List.setIfInBounds_toArray, List.set_cons_zero, List.set_cons_succ])
    refine wpAnyH_take (i := 4) (v := ?v6) rfl (by kernel_rfl) (by kernel_rfl) (by kernel_rfl) (fun _ _ _ h => h) (Or.inl ⟨by rfl, ?hy6⟩) (by assumption) ?rest6
    case hy6 => (intro w hSw; (try dsimp only at hSw); simp only [List.getElem_toArray, List.getElem_cons_zero, List.getElem_cons_succ]; go_simp; (try with_reducible rfl))
    (try simp only [Act.put, List.getElem_toArray, List.getElem_cons_zero, List.getElem_cons_succ, List.setIfInBounds_toArray, List.set_cons_zero, List.set_cons_succ])
    refine wpAnyH_ready (rs := [5]) (by kernel_rfl) (by simp) ?_
    refine AllReadyH.cons rfl (fun KK hK => ?_) AllReadyH.nil
    refine copyI_step (by rfl) _ (by rfl) (b := w.heap.size) (p := zp) (L := zs) (cp := zc) (by rfl) (HZ.out.kept (HO7.out.trans OZ8) (.inr rfl)) HZ4.out ?_
    intro zo zcc W8 o1 hi8
    have O8 : Out 0 0 W7 W8 := OZ8.trans o1
    refine hK.out _ _ ?hS7 (fun hHeld2 => ?rest7)
    case hS7 => exact o1.cell hHeld (.inr (Nat.zero_le _))
    clear o1
    clear hK KK
    (try clear hHeld)
    have hHeld := hHeld2
    clear hHeld2
    (try simp only [Act.put, List.getElem_toArray, List.getElem_cons_zero, List.getElem_cons_succ, List.setIfInBounds_toArray, List.set_cons_zero, List.set_cons_succ])
    refine wpAnyH_ready (rs := [6]) (by kernel_rfl) (by simp) ?_
    refine AllReadyH.cons rfl (fun KK hK => ?_) AllReadyH.nil
    simp only [List.getElem_toArray, List.getElem_cons_zero, List.getElem_cons_succ]
    go_simp
    refine (spFits_any (HS7.out.1.quiet O8).1 (l := zs) (p := zo) (cp := zcc) hi8 (by have := HZ4.out; omega)).mono ?_
    rintro e W9 ⟨rfl, o1⟩
    have O9 : Out 0 0 W7 W9 := O8.trans o1
    clear O8 hi8
    refine hK.out _ _ ?hS8 (fun hHeld2 => ?rest8)
    case hS8 => exact o1.cell hHeld (.inr (Nat.zero_le _))
    clear o1
    clear hK KK
    (try clear hHeld)
    have hHeld := hHeld2
    clear hHeld2
    (try simp only [Act.put, List.getElem_toArray, List.getElem_cons_zero, List.getElem_cons_succ, List.setIfInBounds_toArray, List.set_cons_zero, List.set_cons_succ])
    refine wpAnyH_take (i := 7) (v := ?v9) rfl (by kernel_rfl) (by kernel_rfl) (by kernel_rfl) (fun _ _ _ h => h) (Or.inl ⟨by rfl, ?hy9⟩) (by assumption) ?rest9
    case hy9 => (intro w hSw; (try dsimp only at hSw); simp only [List.getElem_toArray, List.getElem_cons_zero, List.getElem_cons_succ]; go_simp; (try with_reducible rfl))
    (try simp only [Act.put, List.getElem_toArray, List.getElem_cons_zero, List.getElem_cons_succ, List.setIfInBounds_toArray, List.set_cons_zero, List.set_cons_succ])
    refine wpAnyH_done (by kernel_rfl) ?_ _
    clear hHeld
    obtain ⟨ok, hok⟩ : ∃ ok, alAll N stF zs = ok := ⟨_, rfl⟩
    have hpl : plAll N (rawOf N stF) (rawOf N stF).S (fun _ => 0) (fun _ => 0) zs = ok := (fits_true HS7.out.2.1.2 HS7.out.2.2 zs).trans hok
    rw [hpl]
    have HOk := hid_mk hok
    have HS9 := hid_mk (And.intro (HS7.out.1.quiet O9) (HS7.out.2.1.quiet O9))
    have HW9 := hid_mk (And.intro (HW7.out.1.kept O9 (.inr (Nat.zero_le _))) (HW7.out.2.kept O9 (.inr (Nat.zero_le _))))
    have HX9 := hid_mk (And.intro (O9.heap HX7.out (.inr (Nat.zero_le _))) (And.intro (HX.out.1.quiet O9) (And.intro (HX.out.2.1.quiet O9) (HX.out.2.2.quiet O9))))
    have HO9 := hid_mk (HO7.out.trans O9)
    have hD9 := dumpE HS9.out.1
    rw [HQl.out] at hD9
    have HD9 := hid_mk hD9
    have HRtF := hid_mk HS7.out.2.2
    clear O9 OZ8 hok hpl hD9 a1 HS7 HW7 HX HX7 HO7
    have a1 := HW9.out.1.cells.2.1
    go_wp2_with fail
    refine HD9.out.mono ?_
    rintro e wa ⟨yo0, yo1, yo2, yc0, yc1, yc2, yh0, yh1, yh2, yh3, yh4, yh5, yh6, yh7, rfl, d1, d2, d3, hoa⟩
    have HYa := hid_mk (And.intro d1 (And.intro d2 (And.intro d3 hoa)))
    clear d1 d2 d3 hoa HD9 a1
    go_wp2_with fail
    obtain ⟨WC, hWC⟩ : ∃ W, wa.alloc (.cells #[.slice yo0 (64 * N) yc0, .slice yo1 N yc1, .slice yo2 q yc2, .int .i64 yh0, .int .i64 yh1, .int .i64 yh2, .int .i64 yh3, .int .i64 yh4, .int .i64 yh5, .int .i64 yh6, .int .i64 yh7, .int .i64 stF.last] 32) = W := ⟨_, rfl⟩
    obtain ⟨y, hy⟩ : ∃ B, wa.heap.size = B := ⟨_, rfl⟩
    have o7 : Out 0 0 wa WC := by rw [← hWC]; exact (Out.refl 0 0 _).alloc _
    have hYC : WC.heap[y]? = some (.cells #[.slice yo0 (64 * N) yc0, .slice yo1 N yc1, .slice yo2 q yc2, .int .i64 yh0, .int .i64 yh1, .int .i64 yh2, .int .i64 yh3, .int .i64 yh4, .int .i64 yh5, .int .i64 yh6, .int .i64 yh7, .int .i64 stF.last] 32 (0, 0)) := by rw [← hWC, ← hy]; exact heap_alloc_new _ _
    have o9C := HYa.out.2.2.2.trans o7
    have hXC := o9C.heap HX9.out.1 (.inr (Nat.zero_le _))
    have HX := hid_mk (And.intro (HX9.out.2.1.quiet o9C) (And.intro (HX9.out.2.2.1.quiet o9C) (HX9.out.2.2.2.quiet o9C)))
    have HY := hid_mk (And.intro (HYa.out.1.quiet o7) (And.intro (HYa.out.2.1.quiet o7) (HYa.out.2.2.1.quiet o7)))
    have HSu := hid_mk (HS9.out.2.quiet o9C)
    have HWu := hid_mk (HW9.out.2.kept o9C (.inr (Nat.zero_le _)))
    have HOC := hid_mk (HO9.out.trans o9C)
    have a2 := HWu.out.cells.2.1
    have x0 : WC.cell? ⟨x, 0, none⟩ = some (.slice xo0 (64 * N) xc0) := by simp only [World.cell?, hXC]; rfl
    have x1 : WC.cell? ⟨x, 1, none⟩ = some (.slice xo1 N xc1) := by simp only [World.cell?, hXC]; rfl
    have x2 : WC.cell? ⟨x, 2, none⟩ = some (.slice xo2 q xc2) := by simp only [World.cell?, hXC]; rfl
    have x3 : WC.cell? ⟨x, 11, none⟩ = some (.int .i64 stF.last) := by simp only [World.cell?, hXC]; rfl
    have y0 : WC.cell? ⟨y, 0, none⟩ = some (.slice yo0 (64 * N) yc0) := by simp only [World.cell?, hYC]; rfl
    have y1 : WC.cell? ⟨y, 1, none⟩ = some (.slice yo1 N yc1) := by simp only [World.cell?, hYC]; rfl
    have y2 : WC.cell? ⟨y, 2, none⟩ = some (.slice yo2 q yc2) := by simp only [World.cell?, hYC]; rfl
    have y3 : WC.cell? ⟨y, 11, none⟩ = some (.int .i64 stF.last) := by simp only [World.cell?, hYC]; rfl
    have hll : (stF.last != stF.last) = false := by simp
    rw [hWC, hy]
    clear hWC hy o7 o9C hXC hYC HYa HX9 HS9 HW9 HO9
    refine wp_region_held_drew (S := fun w' => w'.cell? ⟨x, 0, none⟩ = some (.slice xo0 (64 * N) xc0) ∧ w'.cell? ⟨x, 1, none⟩ = some (.slice xo1 N xc1) ∧ w'.cell? ⟨x, 2, none⟩ = some (.slice xo2 q xc2) ∧ w'.cell? ⟨x, 11, none⟩ = some (.int .i64 stF.last) ∧ w'.cell? ⟨y, 0, none⟩ = some (.slice yo0 (64 * N) yc0) ∧ w'.cell? ⟨y, 1, none⟩ = some (.slice yo1 N yc1) ∧ w'.cell? ⟨y, 2, none⟩ = some (.slice yo2 q yc2) ∧ w'.cell? ⟨y, 11, none⟩ = some (.int .i64 stF.last) ∧ w'.cell? ⟨b2, 1, none⟩ = some (.pointer (some ⟨s2 14, 0, none⟩))) (by kernel_rfl) ?hS10 (fun hHeld => ?rest10)
    case hS10 => exact ⟨x0, x1, x2, x3, y0, y1, y2, y3, a2⟩
    obtain ⟨ZC, hZ⟩ : ∃ Z, WC.drew = Z := ⟨_, rfl⟩
    have OZC : Out 0 0 WC ZC := by rw [← hZ]; exact (Out.refl 0 0 WC).drew
    rw [hZ] at hHeld ⊢
    clear hZ
    have OW := OZC
    have hfw := field_w
    refine wpAnyH_take (i := 0) (v := ?v11) rfl (by kernel_rfl) (by kernel_rfl) (by kernel_rfl) (fun _ _ _ h => h) (Or.inl ⟨by rfl, ?hy11⟩) (by assumption) ?rest11
    case hy11 => (intro w hSw; (try dsimp only at hSw); simp only [List.getElem_toArray, List.getElem_cons_zero, List.getElem_cons_succ]; go_simp; (try with_reducible rfl))
    (try simp only [Act.put, List.getElem_toArray, List.getElem_cons_zero, List.getElem_cons_succ, List.setIfInBounds_toArray, List.set_cons_zero, List.set_cons_succ])
    refine wpAnyH_take (i := 1) (v := ?v12) rfl (by kernel_rfl) (by kernel_rfl) (by kernel_rfl) (fun _ _ _ h => h) (Or.inl ⟨by rfl, ?hy12⟩) (by assumption) ?rest12
    case hy12 => (intro w hSw; (try dsimp only at hSw); simp only [List.getElem_toArray, List.getElem_cons_zero, List.getElem_cons_succ]; go_simp; (try with_reducible rfl))
    (try simp only [Act.put, List.getElem_toArray, List.getElem_cons_zero, List.getElem_cons_succ, List.setIfInBounds_toArray, List.set_cons_zero, List.set_cons_succ])
    refine wpAnyH_take (i := 2) (v := ?v13) rfl (by kernel_rfl) (by kernel_rfl) (by kernel_rfl) (fun _ _ _ h => h) (Or.inl ⟨by rfl, ?hy13⟩) (by assumption) ?rest13
    case hy13 => (intro w hSw; (try dsimp only at hSw); simp only [List.getElem_toArray, List.getElem_cons_zero, List.getElem_cons_succ]; go_simp; (try with_reducible rfl))
    (try simp only [Act.put, List.getElem_toArray, List.getElem_cons_zero, List.getElem_cons_succ, List.setIfInBounds_toArray, List.set_cons_zero, List.set_cons_succ])
    refine wpAnyH_take (i := 3) (v := ?v14) rfl (by kernel_rfl) (by kernel_rfl) (by kernel_rfl) (fun _ _ _ h => h) (Or.inl ⟨by rfl, ?hy14⟩) (by assumption) ?rest14
    case hy14 => (intro w hSw; (try dsimp only at hSw); simp only [List.getElem_toArray, List.getElem_cons_zero, List.getElem_cons_succ]; go_simp; (try with_reducible rfl))
    (try simp only [Act.put, List.getElem_toArray, List.getElem_cons_zero, List.getElem_cons_succ, List.setIfInBounds_toArray, List.set_cons_zero, List.set_cons_succ])
    refine wpAnyH_ready (rs := [4]) (by kernel_rfl) (by simp) ?_
    refine AllReadyH.cons rfl (fun KK hK => ?_) AllReadyH.nil
    simp only [List.getElem_toArray, List.getElem_cons_zero, List.getElem_cons_succ]
    go_simp
    refine (sameInts_any (HX.out.1.quiet OW) (HY.out.1.quiet OW) HI1.out).mono ?_
    rintro e W104 ⟨rfl, o1⟩
    replace OW := OW.trans o1
    refine hK.out _ _ ?hS15 (fun hHeld2 => ?rest15)
    case hS15 => exact ⟨o1.cell hHeld.1 (.inr (Nat.zero_le _)), o1.cell hHeld.2.1 (.inr (Nat.zero_le _)), o1.cell hHeld.2.2.1 (.inr (Nat.zero_le _)), o1.cell hHeld.2.2.2.1 (.inr (Nat.zero_le _)), o1.cell hHeld.2.2.2.2.1 (.inr (Nat.zero_le _)), o1.cell hHeld.2.2.2.2.2.1 (.inr (Nat.zero_le _)), o1.cell hHeld.2.2.2.2.2.2.1 (.inr (Nat.zero_le _)), o1.cell hHeld.2.2.2.2.2.2.2.1 (.inr (Nat.zero_le _)), o1.cell hHeld.2.2.2.2.2.2.2.2 (.inr (Nat.zero_le _))⟩
    clear o1
    clear hK KK
    (try clear hHeld)
    have hHeld := hHeld2
    clear hHeld2
    (try simp only [Act.put, List.getElem_toArray, List.getElem_cons_zero, List.getElem_cons_succ, List.setIfInBounds_toArray, List.set_cons_zero, List.set_cons_succ])
    refine wpAnyH_take (i := 5) (v := ?v16) rfl (by kernel_rfl) (by kernel_rfl) (by kernel_rfl) (fun _ _ _ h => h) (Or.inl ⟨by rfl, ?hy16⟩) (by assumption) ?rest16
    case hy16 => (intro w hSw; (try dsimp only at hSw); simp only [List.getElem_toArray, List.getElem_cons_zero, List.getElem_cons_succ]; go_simp; (try with_reducible rfl))
    (try simp only [Act.put, List.getElem_toArray, List.getElem_cons_zero, List.getElem_cons_succ, List.setIfInBounds_toArray, List.set_cons_zero, List.set_cons_succ])
    refine wpAnyH_take (i := 6) (v := ?v17) rfl (by kernel_rfl) (by kernel_rfl) (by kernel_rfl) (fun _ _ _ h => h) (Or.inl ⟨by rfl, ?hy17⟩) (by assumption) ?rest17
    case hy17 => (intro w hSw; (try dsimp only at hSw); simp only [List.getElem_toArray, List.getElem_cons_zero, List.getElem_cons_succ]; go_simp; (try with_reducible rfl))
    (try simp only [Act.put, List.getElem_toArray, List.getElem_cons_zero, List.getElem_cons_succ, List.setIfInBounds_toArray, List.set_cons_zero, List.set_cons_succ])
    refine wpAnyH_take (i := 7) (v := ?v18) rfl (by kernel_rfl) (by kernel_rfl) (by kernel_rfl) (fun _ _ _ h => h) (Or.inl ⟨by rfl, ?hy18⟩) (by assumption) ?rest18
    case hy18 => (intro w hSw; (try dsimp only at hSw); simp only [List.getElem_toArray, List.getElem_cons_zero, List.getElem_cons_succ]; go_simp; (try with_reducible rfl))
    (try simp only [Act.put, List.getElem_toArray, List.getElem_cons_zero, List.getElem_cons_succ, List.setIfInBounds_toArray, List.set_cons_zero, List.set_cons_succ])
    refine wpAnyH_take (i := 8) (v := ?v19) rfl (by kernel_rfl) (by kernel_rfl) (by kernel_rfl) (fun _ _ _ h => h) (Or.inl ⟨by rfl, ?hy19⟩) (by assumption) ?rest19
    case hy19 => (intro w hSw; (try dsimp only at hSw); simp only [List.getElem_toArray, List.getElem_cons_zero, List.getElem_cons_succ]; go_simp; (try with_reducible rfl))
    (try simp only [Act.put, List.getElem_toArray, List.getElem_cons_zero, List.getElem_cons_succ, List.setIfInBounds_toArray, List.set_cons_zero, List.set_cons_succ])
    refine wpAnyH_take (i := 9) (v := ?v20) rfl (by kernel_rfl) (by kernel_rfl) (by kernel_rfl) (fun _ _ _ h => h) (Or.inl ⟨by rfl, ?hy20⟩) (by assumption) ?rest20
    case hy20 => (intro w hSw; (try dsimp only at hSw); simp only [List.getElem_toArray, List.getElem_cons_zero, List.getElem_cons_succ]; go_simp; (try with_reducible rfl))
    (try simp only [Act.put, List.getElem_toArray, List.getElem_cons_zero, List.getElem_cons_succ, List.setIfInBounds_toArray, List.set_cons_zero, List.set_cons_succ])
    refine wpAnyH_take (i := 10) (v := ?v21) rfl (by kernel_rfl) (by kernel_rfl) (by kernel_rfl) (fun _ _ _ h => h) (Or.inl ⟨by rfl, ?hy21⟩) (by assumption) ?rest21
    case hy21 => (intro w hSw; (try dsimp only at hSw); simp only [List.getElem_toArray, List.getElem_cons_zero, List.getElem_cons_succ]; go_simp; (try with_reducible rfl))
    (try simp only [Act.put, List.getElem_toArray, List.getElem_cons_zero, List.getElem_cons_succ, List.setIfInBounds_toArray, List.set_cons_zero, List.set_cons_succ])
    refine wpAnyH_ready (rs := [11]) (by kernel_rfl) (by simp) ?_
    refine AllReadyH.cons rfl (fun KK hK => ?_) AllReadyH.nil
    simp only [List.getElem_toArray, List.getElem_cons_zero, List.getElem_cons_succ]
    go_simp
    refine (samePages_any (HX.out.2.1.quiet OW) (HY.out.2.1.quiet OW) HI2.out).mono ?_
    rintro e W111 ⟨rfl, o1⟩
    replace OW := OW.trans o1
    refine hK.out _ _ ?hS22 (fun hHeld2 => ?rest22)
    case hS22 => exact ⟨o1.cell hHeld.1 (.inr (Nat.zero_le _)), o1.cell hHeld.2.1 (.inr (Nat.zero_le _)), o1.cell hHeld.2.2.1 (.inr (Nat.zero_le _)), o1.cell hHeld.2.2.2.1 (.inr (Nat.zero_le _)), o1.cell hHeld.2.2.2.2.1 (.inr (Nat.zero_le _)), o1.cell hHeld.2.2.2.2.2.1 (.inr (Nat.zero_le _)), o1.cell hHeld.2.2.2.2.2.2.1 (.inr (Nat.zero_le _)), o1.cell hHeld.2.2.2.2.2.2.2.1 (.inr (Nat.zero_le _)), o1.cell hHeld.2.2.2.2.2.2.2.2 (.inr (Nat.zero_le _))⟩
    clear o1
    clear hK KK
    (try clear hHeld)
    have hHeld := hHeld2
    clear hHeld2
    (try simp only [Act.put, List.getElem_toArray, List.getElem_cons_zero, List.getElem_cons_succ, List.setIfInBounds_toArray, List.set_cons_zero, List.set_cons_succ])
    refine wpAnyH_take (i := 12) (v := ?v23) rfl (by kernel_rfl) (by kernel_rfl) (by kernel_rfl) (fun _ _ _ h => h) (Or.inl ⟨by rfl, ?hy23⟩) (by assumption) ?rest23
    case hy23 => (intro w hSw; (try dsimp only at hSw); simp only [List.getElem_toArray, List.getElem_cons_zero, List.getElem_cons_succ]; go_simp; (try with_reducible rfl))
    (try simp only [Act.put, List.getElem_toArray, List.getElem_cons_zero, List.getElem_cons_succ, List.setIfInBounds_toArray, List.set_cons_zero, List.set_cons_succ])
    refine wpAnyH_take (i := 13) (v := ?v24) rfl (by kernel_rfl) (by kernel_rfl) (by kernel_rfl) (fun _ _ _ h => h) (Or.inl ⟨by rfl, ?hy24⟩) (by assumption) ?rest24
    case hy24 => (intro w hSw; (try dsimp only at hSw); simp only [List.getElem_toArray, List.getElem_cons_zero, List.getElem_cons_succ]; go_simp; (try with_reducible rfl))
    (try simp only [Act.put, List.getElem_toArray, List.getElem_cons_zero, List.getElem_cons_succ, List.setIfInBounds_toArray, List.set_cons_zero, List.set_cons_succ])
    refine wpAnyH_take (i := 14) (v := ?v25) rfl (by kernel_rfl) (by kernel_rfl) (by kernel_rfl) (fun _ _ _ h => h) (Or.inl ⟨by rfl, ?hy25⟩) (by assumption) ?rest25
    case hy25 => (intro w hSw; (try dsimp only at hSw); simp only [List.getElem_toArray, List.getElem_cons_zero, List.getElem_cons_succ]; go_simp; (try with_reducible rfl))
    (try simp only [Act.put, List.getElem_toArray, List.getElem_cons_zero, List.getElem_cons_succ, List.setIfInBounds_toArray, List.set_cons_zero, List.set_cons_succ])
    refine wpAnyH_take (i := 15) (v := ?v26) rfl (by kernel_rfl) (by kernel_rfl) (by kernel_rfl) (fun _ _ _ h => h) (Or.inl ⟨by rfl, ?hy26⟩) (by assumption) ?rest26
    case hy26 => (intro w hSw; (try dsimp only at hSw); simp only [List.getElem_toArray, List.getElem_cons_zero, List.getElem_cons_succ]; go_simp; (try with_reducible rfl))
    (try simp only [Act.put, List.getElem_toArray, List.getElem_cons_zero, List.getElem_cons_succ, List.setIfInBounds_toArray, List.set_cons_zero, List.set_cons_succ])
    refine wpAnyH_take (i := 16) (v := ?v27) rfl (by kernel_rfl) (by kernel_rfl) (by kernel_rfl) (fun _ _ _ h => h) (Or.inl ⟨by rfl, ?hy27⟩) (by assumption) ?rest27
    case hy27 => (intro w hSw; (try dsimp only at hSw); simp only [List.getElem_toArray, List.getElem_cons_zero, List.getElem_cons_succ]; go_simp; (try with_reducible rfl))
    (try simp only [Act.put, List.getElem_toArray, List.getElem_cons_zero, List.getElem_cons_succ, List.setIfInBounds_toArray, List.set_cons_zero, List.set_cons_succ])
    refine wpAnyH_take (i := 17) (v := ?v28) rfl (by kernel_rfl) (by kernel_rfl) (by kernel_rfl) (fun _ _ _ h => h) (Or.inl ⟨by rfl, ?hy28⟩) (by assumption) ?rest28
    case hy28 => (intro w hSw; (try dsimp only at hSw); simp only [List.getElem_toArray, List.getElem_cons_zero, List.getElem_cons_succ]; go_simp; (try with_reducible rfl))
    (try simp only [Act.put, List.getElem_toArray, List.getElem_cons_zero, List.getElem_cons_succ, List.setIfInBounds_toArray, List.set_cons_zero, List.set_cons_succ])
    refine wpAnyH_take (i := 18) (v := ?v29) rfl (by kernel_rfl) (by kernel_rfl) (by kernel_rfl) (fun _ _ _ h => h) (Or.inl ⟨by rfl, ?hy29⟩) (by assumption) ?rest29
    case hy29 => (intro w hSw; (try dsimp only at hSw); simp only [List.getElem_toArray, List.getElem_cons_zero, List.getElem_cons_succ]; go_simp; (try with_reducible rfl))
    (try simp only [Act.put, List.getElem_toArray, List.getElem_cons_zero, List.getElem_cons_succ, List.setIfInBounds_toArray, List.set_cons_zero, List.set_cons_succ])
    refine wpAnyH_ready (rs := [19]) (by kernel_rfl) (by simp) ?_
    refine AllReadyH.cons rfl (fun KK hK => ?_) AllReadyH.nil
    simp only [List.getElem_toArray, List.getElem_cons_zero, List.getElem_cons_succ]
    go_simp
    refine (sameBlocks_any (HX.out.2.2.quiet OW) (HY.out.2.2.quiet OW) HI3.out).mono ?_
    rintro e W119 ⟨rfl, o1⟩
    replace OW := OW.trans o1
    refine hK.out _ _ ?hS30 (fun hHeld2 => ?rest30)
    case hS30 => exact ⟨o1.cell hHeld.1 (.inr (Nat.zero_le _)), o1.cell hHeld.2.1 (.inr (Nat.zero_le _)), o1.cell hHeld.2.2.1 (.inr (Nat.zero_le _)), o1.cell hHeld.2.2.2.1 (.inr (Nat.zero_le _)), o1.cell hHeld.2.2.2.2.1 (.inr (Nat.zero_le _)), o1.cell hHeld.2.2.2.2.2.1 (.inr (Nat.zero_le _)), o1.cell hHeld.2.2.2.2.2.2.1 (.inr (Nat.zero_le _)), o1.cell hHeld.2.2.2.2.2.2.2.1 (.inr (Nat.zero_le _)), o1.cell hHeld.2.2.2.2.2.2.2.2 (.inr (Nat.zero_le _))⟩
    clear o1
    clear hK KK
    (try clear hHeld)
    have hHeld := hHeld2
    clear hHeld2
    (try simp only [Act.put, List.getElem_toArray, List.getElem_cons_zero, List.getElem_cons_succ, List.setIfInBounds_toArray, List.set_cons_zero, List.set_cons_succ])
    refine wpAnyH_take (i := 20) (v := ?v31) rfl (by kernel_rfl) (by kernel_rfl) (by kernel_rfl) (fun _ _ _ h => h) (Or.inl ⟨by rfl, ?hy31⟩) (by assumption) ?rest31
    case hy31 => (intro w hSw; (try dsimp only at hSw); simp only [List.getElem_toArray, List.getElem_cons_zero, List.getElem_cons_succ]; go_simp; (try with_reducible rfl))
    (try simp only [Act.put, List.getElem_toArray, List.getElem_cons_zero, List.getElem_cons_succ, List.setIfInBounds_toArray, List.set_cons_zero, List.set_cons_succ])
    refine wpAnyH_take (i := 21) (v := ?v32) rfl (by kernel_rfl) (by kernel_rfl) (by kernel_rfl) (fun _ _ _ h => h) (Or.inl ⟨by rfl, ?hy32⟩) (by assumption) ?rest32
    case hy32 => (intro w hSw; (try dsimp only at hSw); simp only [List.getElem_toArray, List.getElem_cons_zero, List.getElem_cons_succ]; go_simp; (try with_reducible rfl))
    (try simp only [Act.put, List.getElem_toArray, List.getElem_cons_zero, List.getElem_cons_succ, List.setIfInBounds_toArray, List.set_cons_zero, List.set_cons_succ])
    refine wpAnyH_take (i := 22) (v := ?v33) rfl (by kernel_rfl) (by kernel_rfl) (by kernel_rfl) (fun _ _ _ h => h) (Or.inl ⟨by rfl, ?hy33⟩) (by assumption) ?rest33
    case hy33 => (intro w hSw; (try dsimp only at hSw); simp only [List.getElem_toArray, List.getElem_cons_zero, List.getElem_cons_succ]; go_simp; (try with_reducible rfl))
    (try simp only [Act.put, List.getElem_toArray, List.getElem_cons_zero, List.getElem_cons_succ, List.setIfInBounds_toArray, List.set_cons_zero, List.set_cons_succ])
    refine wpAnyH_take (i := 23) (v := ?v34) rfl (by kernel_rfl) (by kernel_rfl) (by kernel_rfl) (fun _ _ _ h => h) (Or.inl ⟨by rfl, ?hy34⟩) (by assumption) ?rest34
    case hy34 => (intro w hSw; (try dsimp only at hSw); simp only [List.getElem_toArray, List.getElem_cons_zero, List.getElem_cons_succ]; go_simp; (try with_reducible rfl))
    (try simp only [Act.put, List.getElem_toArray, List.getElem_cons_zero, List.getElem_cons_succ, List.setIfInBounds_toArray, List.set_cons_zero, List.set_cons_succ])
    refine wpAnyH_take (i := 24) (v := ?v35) rfl (by kernel_rfl) (by kernel_rfl) (by kernel_rfl) (fun _ _ _ h => h) (Or.inl ⟨by rfl, ?hy35⟩) (by assumption) ?rest35
    case hy35 => (intro w hSw; (try dsimp only at hSw); simp only [List.getElem_toArray, List.getElem_cons_zero, List.getElem_cons_succ]; go_simp; (try with_reducible rfl))
    (try simp only [Act.put, List.getElem_toArray, List.getElem_cons_zero, List.getElem_cons_succ, List.setIfInBounds_toArray, List.set_cons_zero, List.set_cons_succ])
    refine wpAnyH_take (i := 25) (v := ?v36) rfl (by kernel_rfl) (by kernel_rfl) (by kernel_rfl) (fun _ _ _ h => h) (Or.inl ⟨by rfl, ?hy36⟩) (by assumption) ?rest36
    case hy36 => (intro w hSw; (try dsimp only at hSw); simp only [List.getElem_toArray, List.getElem_cons_zero, List.getElem_cons_succ]; go_simp; (try with_reducible rfl))
    (try simp only [Act.put, List.getElem_toArray, List.getElem_cons_zero, List.getElem_cons_succ, List.setIfInBounds_toArray, List.set_cons_zero, List.set_cons_succ])
    refine wpAnyH_take (i := 26) (v := ?v37) rfl (by kernel_rfl) (by kernel_rfl) (by kernel_rfl) (fun _ _ _ h => h) (Or.inl ⟨by rfl, ?hy37⟩) (by assumption) ?rest37
    case hy37 => (intro w hSw; (try dsimp only at hSw); simp only [List.getElem_toArray, List.getElem_cons_zero, List.getElem_cons_succ]; go_simp; (try with_reducible rfl))
    (try simp only [Act.put, List.getElem_toArray, List.getElem_cons_zero, List.getElem_cons_succ, List.setIfInBounds_toArray, List.set_cons_zero, List.set_cons_succ])
    refine wpAnyH_take (i := 27) (v := ?v38) rfl (by kernel_rfl) (by kernel_rfl) (by kernel_rfl) (fun _ _ _ h => h) (Or.inl ⟨by rfl, ?hy38⟩) (by assumption) ?rest38
    case hy38 => (intro w hSw; (try dsimp only at hSw); simp only [List.getElem_toArray, List.getElem_cons_zero, List.getElem_cons_succ]; go_simp; (try with_reducible rfl))
    (try simp only [Act.put, List.getElem_toArray, List.getElem_cons_zero, List.getElem_cons_succ, List.setIfInBounds_toArray, List.set_cons_zero, List.set_cons_succ])
    refine wpAnyH_take (i := 28) (v := ?v39) rfl (by kernel_rfl) (by kernel_rfl) (by kernel_rfl) (fun _ _ _ h => h) (Or.inl ⟨by rfl, ?hy39⟩) (by assumption) ?rest39
    case hy39 => (intro w hSw; (try dsimp only at hSw); simp only [List.getElem_toArray, List.getElem_cons_zero, List.getElem_cons_succ]; go_simp; (try with_reducible rfl))
    (try simp only [Act.put, List.getElem_toArray, List.getElem_cons_zero, List.getElem_cons_succ, List.setIfInBounds_toArray, List.set_cons_zero, List.set_cons_succ])
    refine wpAnyH_take (i := 29) (v := ?v40) rfl (by kernel_rfl) (by kernel_rfl) (by kernel_rfl) (fun _ _ _ h => h) (Or.inl ⟨by rfl, ?hy40⟩) (by assumption) ?rest40
    case hy40 => (intro w hSw; (try dsimp only at hSw); simp only [List.getElem_toArray, List.getElem_cons_zero, List.getElem_cons_succ]; go_simp; (try with_reducible rfl))
    (try simp only [Act.put, List.getElem_toArray, List.getElem_cons_zero, List.getElem_cons_succ, List.setIfInBounds_toArray, List.set_cons_zero, List.set_cons_succ])
    refine wpAnyH_take (i := 30) (v := ?v41) rfl (by kernel_rfl) (by kernel_rfl) (by kernel_rfl) (fun _ _ _ h => h) (Or.inl ⟨by rfl, ?hy41⟩) (by assumption) ?rest41
    case hy41 => (intro w hSw; (try dsimp only at hSw); simp only [List.getElem_toArray, List.getElem_cons_zero, List.getElem_cons_succ]; go_simp; (try with_reducible rfl))
    (try simp only [Act.put, List.getElem_toArray, List.getElem_cons_zero, List.getElem_cons_succ, List.setIfInBounds_toArray, List.set_cons_zero, List.set_cons_succ])
    refine wpAnyH_take (i := 31) (v := ?v42) rfl (by kernel_rfl) (by kernel_rfl) (by kernel_rfl) (fun _ _ _ h => h) (Or.inl ⟨by rfl, ?hy42⟩) (by assumption) ?rest42
    case hy42 => (intro w hSw; (try dsimp only at hSw); simp only [List.getElem_toArray, List.getElem_cons_zero, List.getElem_cons_succ]; go_simp; (try with_reducible rfl))
    (try simp only [Act.put, List.getElem_toArray, List.getElem_cons_zero, List.getElem_cons_succ, List.setIfInBounds_toArray, List.set_cons_zero, List.set_cons_succ])
    refine wpAnyH_take (i := 32) (v := ?v43) rfl (by kernel_rfl) (by kernel_rfl) (by kernel_rfl) (fun _ _ _ h => h) (Or.inl ⟨by rfl, ?hy43⟩) (by assumption) ?rest43
    case hy43 => (intro w hSw; (try dsimp only at hSw); simp only [List.getElem_toArray, List.getElem_cons_zero, List.getElem_cons_succ]; go_simp; (try with_reducible rfl))
    (try simp only [Act.put, List.getElem_toArray, List.getElem_cons_zero, List.getElem_cons_succ, List.setIfInBounds_toArray, List.set_cons_zero, List.set_cons_succ])
    refine wpAnyH_take (i := 33) (v := ?v44) rfl (by kernel_rfl) (by kernel_rfl) (by kernel_rfl) (fun _ _ _ h => h) (Or.inl ⟨by rfl, ?hy44⟩) (by assumption) ?rest44
    case hy44 => (intro w hSw; (try dsimp only at hSw); simp only [List.getElem_toArray, List.getElem_cons_zero, List.getElem_cons_succ]; go_simp; (try with_reducible rfl))
    (try simp only [Act.put, List.getElem_toArray, List.getElem_cons_zero, List.getElem_cons_succ, List.setIfInBounds_toArray, List.set_cons_zero, List.set_cons_succ])
    refine wpAnyH_take (i := 34) (v := ?v45) rfl (by kernel_rfl) (by kernel_rfl) (by kernel_rfl) (fun _ _ _ h => h) (Or.inl ⟨by rfl, ?hy45⟩) (by assumption) ?rest45
    case hy45 => (intro w hSw; (try dsimp only at hSw); simp only [List.getElem_toArray, List.getElem_cons_zero, List.getElem_cons_succ]; go_simp; (try with_reducible rfl))
    (try simp only [Act.put, List.getElem_toArray, List.getElem_cons_zero, List.getElem_cons_succ, List.setIfInBounds_toArray, List.set_cons_zero, List.set_cons_succ])
    refine wpAnyH_take (i := 35) (v := ?v46) rfl (by kernel_rfl) (by kernel_rfl) (by kernel_rfl) (fun _ _ _ h => h) (Or.inl ⟨by rfl, ?hy46⟩) (by assumption) ?rest46
    case hy46 => (intro w hSw; (try dsimp only at hSw); simp only [List.getElem_toArray, List.getElem_cons_zero, List.getElem_cons_succ]; go_simp; (try with_reducible rfl))
    (try simp only [Act.put, List.getElem_toArray, List.getElem_cons_zero, List.getElem_cons_succ, List.setIfInBounds_toArray, List.set_cons_zero, List.set_cons_succ])
    refine wpAnyH_ready (rs := [36]) (by kernel_rfl) (by simp) ?_
    refine AllReadyH.cons rfl (fun KK hK => ?_) AllReadyH.nil
    simp only [List.getElem_toArray, List.getElem_cons_zero, List.getElem_cons_succ]
    go_simp
    refine (dumpE (HSu.out.quiet OW)).mono ?_
    rintro e W136 ⟨uo0, uo1, uo2, uc0, uc1, uc2, k0, k1, k2, k3, k4, k5, k6, k7, rfl, du1, du2, du3, o1⟩
    replace OW := OW.trans o1
    clear du2 du3
    refine hK.out _ _ ?hS47 (fun hHeld2 => ?rest47)
    case hS47 => exact ⟨o1.cell hHeld.1 (.inr (Nat.zero_le _)), o1.cell hHeld.2.1 (.inr (Nat.zero_le _)), o1.cell hHeld.2.2.1 (.inr (Nat.zero_le _)), o1.cell hHeld.2.2.2.1 (.inr (Nat.zero_le _)), o1.cell hHeld.2.2.2.2.1 (.inr (Nat.zero_le _)), o1.cell hHeld.2.2.2.2.2.1 (.inr (Nat.zero_le _)), o1.cell hHeld.2.2.2.2.2.2.1 (.inr (Nat.zero_le _)), o1.cell hHeld.2.2.2.2.2.2.2.1 (.inr (Nat.zero_le _)), o1.cell hHeld.2.2.2.2.2.2.2.2 (.inr (Nat.zero_le _))⟩
    clear o1
    clear hK KK
    (try clear hHeld)
    have hHeld := hHeld2
    clear hHeld2
    (try simp only [Act.put, List.getElem_toArray, List.getElem_cons_zero, List.getElem_cons_succ, List.setIfInBounds_toArray, List.set_cons_zero, List.set_cons_succ])
    refine wpAnyH_take (i := 37) (v := ?v48) rfl (by kernel_rfl) (by kernel_rfl) (by kernel_rfl) (fun _ _ _ h => h) (Or.inl ⟨by rfl, ?hy48⟩) (by assumption) ?rest48
    case hy48 => (intro w hSw; (try dsimp only at hSw); simp only [List.getElem_toArray, List.getElem_cons_zero, List.getElem_cons_succ]; go_simp; (try with_reducible rfl))
    (try simp only [Act.put, List.getElem_toArray, List.getElem_cons_zero, List.getElem_cons_succ, List.setIfInBounds_toArray, List.set_cons_zero, List.set_cons_succ])
    refine wpAnyH_ready (rs := [38]) (by kernel_rfl) (by simp) ?_
    refine AllReadyH.cons rfl (fun KK hK => ?_) AllReadyH.nil
    simp only [List.getElem_toArray, List.getElem_cons_zero, List.getElem_cons_succ]
    go_simp
    refine (sameInts_any (HY.out.1.quiet OW) du1 HI1.out).mono ?_
    rintro e W138 ⟨rfl, o1⟩
    replace OW := OW.trans o1
    refine hK.out _ _ ?hS49 (fun hHeld2 => ?rest49)
    case hS49 => exact ⟨o1.cell hHeld.1 (.inr (Nat.zero_le _)), o1.cell hHeld.2.1 (.inr (Nat.zero_le _)), o1.cell hHeld.2.2.1 (.inr (Nat.zero_le _)), o1.cell hHeld.2.2.2.1 (.inr (Nat.zero_le _)), o1.cell hHeld.2.2.2.2.1 (.inr (Nat.zero_le _)), o1.cell hHeld.2.2.2.2.2.1 (.inr (Nat.zero_le _)), o1.cell hHeld.2.2.2.2.2.2.1 (.inr (Nat.zero_le _)), o1.cell hHeld.2.2.2.2.2.2.2.1 (.inr (Nat.zero_le _)), o1.cell hHeld.2.2.2.2.2.2.2.2 (.inr (Nat.zero_le _))⟩
    clear o1
    clear hK KK
    (try clear hHeld)
    have hHeld := hHeld2
    clear hHeld2
    (try simp only [Act.put, List.getElem_toArray, List.getElem_cons_zero, List.getElem_cons_succ, List.setIfInBounds_toArray, List.set_cons_zero, List.set_cons_succ])
    refine wpAnyH_take (i := 39) (v := ?v50) rfl (by kernel_rfl) (by kernel_rfl) (by kernel_rfl) (fun _ _ _ h => h) (Or.inl ⟨by rfl, ?hy50⟩) (by assumption) ?rest50
    case hy50 => (intro w hSw; (try dsimp only at hSw); simp only [List.getElem_toArray, List.getElem_cons_zero, List.getElem_cons_succ]; go_simp; (try with_reducible rfl))
    (try simp only [Act.put, List.getElem_toArray, List.getElem_cons_zero, List.getElem_cons_succ, List.setIfInBounds_toArray, List.set_cons_zero, List.set_cons_succ])
    refine wpAnyH_take (i := 40) (v := ?v51) rfl (by kernel_rfl) (by kernel_rfl) (by kernel_rfl) (fun _ _ _ h => h) (Or.inl ⟨by rfl, ?hy51⟩) (by assumption) ?rest51
    case hy51 => (intro w hSw; (try dsimp only at hSw); simp only [List.getElem_toArray, List.getElem_cons_zero, List.getElem_cons_succ]; go_simp; (try with_reducible rfl))
    (try simp only [Act.put, List.getElem_toArray, List.getElem_cons_zero, List.getElem_cons_succ, List.setIfInBounds_toArray, List.set_cons_zero, List.set_cons_succ])
    refine wpAnyH_done (by kernel_rfl) ?_ _
    clear hHeld
    have HSu2 := hid_mk (And.intro (HSu.out.quiet OW) (And.intro (HWu.out.kept OW (.inr (Nat.zero_le _))) (HOC.out.trans OW)))
    have HOd2 : Hid (b2 < lo2 ∧ w.heap.size ≤ lo2 ∧ 4 ≤ lo2 ∧ w.heap.size ≤ b2) := by
      have h1 := HOd.out
      have h2 := HT.out.lt
      show _ ∧ _
      omega
    clear OW OZC hfw du1 x0 x1 x2 x3 y0 y1 y2 y3 a2 hll HX HY HSu HWu HOC
    go_wp2_with fail
    go_loopw [12, 13] (fun gv u wr => ∃ (i : Nat) (g : Bool), u = .int .i64 (i : Int) ∧ gv = .bool g ∧ i ≤ zs.length ∧ WAt wr b2 N (s2 14) v5 stF.last ∧ Out 0 0 w wr ∧ ((g = true ∧ ∃ st', SpAt wr lo2 hi2 s2 N cap2 st' ∧ Rt N st' ∧ st'.last ≤ stF.last + (i : Int) ∧ ok = alAll N st' (zs.drop i)) ∨ (g = false ∧ ok = false))) (fun _ u _ => zs.length - (intOf u).toNat)
    case atStart => exact ⟨0, true, rfl, rfl, Nat.zero_le _, HSu2.out.2.1, HSu2.out.2.2, .inl ⟨rfl, stF, HSu2.out.1, HRtF.out, by omega, by rw [List.drop_zero]; exact HOk.out.symm⟩⟩
    case round =>
      clear HSu2
      obtain ⟨i, g, rfl, rfl, i1, jWa, jO, hcase⟩ := hrel
      have i0 : (0 : Int) ≤ (i : Int) := by omega
      have i4 : (i : Int) ≤ 400 := by have := HZ4.out; omega
      have a2 := jWa.cells.2.1
      cases g with
      | false =>
        obtain ⟨hx, _⟩ | ⟨_, hok⟩ := hcase
        · cases hx
        subst hok
        have HO := hid_mk jO
        clear jWa jO
        by_cases hi : i < zs.length
        · have j1 : (i : Int) < (zs.length : Int) := by omega
          go_wp2
          go_ret
          exact ⟨rfl, HO.out⟩
        · have j1 : ¬ (i : Int) < (zs.length : Int) := by omega
          have j2 : decide ((i : Int) < (zs.length : Int)) = false := decide_eq_false j1
          go_wp2
          go_ret
          exact ⟨rfl, HO.out⟩
      | true =>
        obtain ⟨_, st', jSp, jR, jl, jok⟩ | ⟨hx, _⟩ := hcase
        case inr => cases hx
        by_cases hi : i < zs.length
        · have j1 : (i : Int) < (zs.length : Int) := by omega
          obtain ⟨z, hz⟩ : ∃ z, zs[i]? = some z := ⟨_, List.getElem?_eq_getElem hi⟩
          rcases HZ.out.2 with e | ⟨zg, zoff, hp, hgb, hcell⟩
          · rw [e] at hi; simp at hi
          subst hp
          have cz := jO.cell (hcell i z hz) (.inr (Nat.zero_le _))
          obtain ⟨hz1, hz2⟩ := HZ.out.1 z (List.mem_of_getElem? hz)
          have hlb : st'.last < 4611686018427387904 := by have := HLF.out; omega
          obtain ⟨⟨av, er, ea, st2⟩, hal⟩ : ∃ q, alF N st' 3 z 0 = q := ⟨_, rfl⟩
          have hdr : zs.drop i = z :: zs.drop (i + 1) := by
            rw [List.drop_eq_getElem_cons hi]
            have : zs[i]? = some zs[i] := List.getElem?_eq_getElem hi
            rw [hz] at this
            cases this
            rfl
          have hok : ok = ((er == 0) && alAll N st2 (zs.drop (i + 1))) := by
            rw [jok, hdr]
            show ((alF N st' 3 z 0).2.1 == 0 && alAll N (alF N st' 3 z 0).2.2.2 (zs.drop (i + 1))) = _
            rw [hal]
          have HNx : Hid (er = 0 → Rt N st2 ∧ st2.last ≤ stF.last + ((i + 1 : Nat) : Int) ∧ ok = alAll N st2 (zs.drop (i + 1))) := fun e0 => by
            obtain ⟨n1, n2⟩ := al_next jSp.2 jR hal e0
            exact ⟨n1, by push_cast; omega, by rw [hok, e0]; simp⟩
          have HFl : Hid ((er == 0) = false → ok = false) := fun e0 => by rw [hok, e0]; rfl
          clear hcell hz hdr hok jok jl hi
          go_wp2_with fail
          refine wp_region_held_drew (S := fun w' => w'.cell? ⟨b2, 1, none⟩ = some (.pointer (some ⟨s2 14, 0, none⟩)) ∧ w'.cell? ⟨zg, zoff + i, none⟩ = some (.int .i64 z)) (by kernel_rfl) ?hS52 (fun hHeld => ?rest52)
          case hS52 => exact ⟨a2, cz⟩
          obtain ⟨Z6, hZ⟩ : ∃ Z, wr.drew = Z := ⟨_, rfl⟩
          have OZ6 : Out 0 0 wr Z6 := by rw [← hZ]; exact (Out.refl 0 0 wr).drew
          rw [hZ] at hHeld ⊢
          clear hZ
          have fSp := jSp.quiet OZ6
          have fWa := jWa.kept OZ6 (.inr (Nat.zero_le _))
          have fO := jO.trans OZ6
          clear OZ6
          refine wpAnyH_take (i := 0) (v := ?v53) rfl (by kernel_rfl) (by kernel_rfl) (by kernel_rfl) (fun _ _ _ h => h) (Or.inl ⟨by rfl, ?hy53⟩) (by assumption) ?rest53
          case hy53 => (intro w hSw; (try dsimp only at hSw); simp only [List.getElem_toArray, List.getElem_cons_zero, List.getElem_cons_succ]; go_simp; (try with_reducible rfl))
          (try simp only [Act.put, List.getElem_toArray, List.getElem_cons_zero, List.getElem_cons_succ, List.setIfInBounds_toArray, List.set_cons_zero, List.set_cons_succ])
          refine wpAnyH_take (i := 1) (v := ?v54) rfl (by kernel_rfl) (by kernel_rfl) (by kernel_rfl) (fun _ _ _ h => h) (Or.inl ⟨by rfl, ?hy54⟩) (by assumption) ?rest54
          case hy54 => (intro w hSw; (try dsimp only at hSw); simp only [List.getElem_toArray, List.getElem_cons_zero, List.getElem_cons_succ]; go_simp; (try with_reducible rfl))
          (try simp only [Act.put, List.getElem_toArray, List.getElem_cons_zero, List.getElem_cons_succ, List.setIfInBounds_toArray, List.set_cons_zero, List.set_cons_succ])
          refine wpAnyH_take (i := 2) (v := ?v55) rfl (by kernel_rfl) (by kernel_rfl) (by kernel_rfl) (fun _ _ _ h => h) (Or.inl ⟨by rfl, ?hy55⟩) (by assumption) ?rest55
          case hy55 => (intro w hSw; (try dsimp only at hSw); simp only [List.getElem_toArray, List.getElem_cons_zero, List.getElem_cons_succ]; go_simp; (try with_reducible rfl))
          (try simp only [Act.put, List.getElem_toArray, List.getElem_cons_zero, List.getElem_cons_succ, List.setIfInBounds_toArray, List.set_cons_zero, List.set_cons_succ])
          refine wpAnyH_take (i := 3) (v := ?v56) rfl (by kernel_rfl) (by kernel_rfl) (by kernel_rfl) (fun _ _ _ h => h) (Or.inl ⟨by rfl, ?hy56⟩) (by assumption) ?rest56
          case hy56 => (intro w hSw; (try dsimp only at hSw); simp only [List.getElem_toArray, List.getElem_cons_zero, List.getElem_cons_succ]; go_simp; (try with_reducible rfl))
          (try simp only [Act.put, List.getElem_toArray, List.getElem_cons_zero, List.getElem_cons_succ, List.setIfInBounds_toArray, List.set_cons_zero, List.set_cons_succ])
          refine wpAnyH_take (i := 4) (v := ?v57) rfl (by kernel_rfl) (by kernel_rfl) (by kernel_rfl) (fun _ _ _ h => h) (Or.inl ⟨by rfl, ?hy57⟩) (by assumption) ?rest57
          case hy57 => (intro w hSw; (try dsimp only at hSw); simp only [List.getElem_toArray, List.getElem_cons_zero, List.getElem_cons_succ]; go_simp; (try with_reducible rfl))
          (try simp only [Act.put, List.getElem_toArray, List.getElem_cons_zero, List.getElem_cons_succ, List.setIfInBounds_toArray, List.set_cons_zero, List.set_cons_succ])
          refine wpAnyH_take (i := 5) (v := ?v58) rfl (by kernel_rfl) (by kernel_rfl) (by kernel_rfl) (fun _ _ _ h => h) (Or.inl ⟨by rfl, ?hy58⟩) (by assumption) ?rest58
          case hy58 => (intro w hSw; (try dsimp only at hSw); simp only [List.getElem_toArray, List.getElem_cons_zero, List.getElem_cons_succ]; go_simp; (try with_reducible rfl))
          (try simp only [Act.put, List.getElem_toArray, List.getElem_cons_zero, List.getElem_cons_succ, List.setIfInBounds_toArray, List.set_cons_zero, List.set_cons_succ])
          refine wpAnyH_take (i := 6) (v := ?v59) rfl (by kernel_rfl) (by kernel_rfl) (by kernel_rfl) (fun _ _ _ h => h) (Or.inl ⟨by rfl, ?hy59⟩) (by assumption) ?rest59
          case hy59 => (intro w hSw; (try dsimp only at hSw); simp only [List.getElem_toArray, List.getElem_cons_zero, List.getElem_cons_succ]; go_simp; (try with_reducible rfl))
          (try simp only [Act.put, List.getElem_toArray, List.getElem_cons_zero, List.getElem_cons_succ, List.setIfInBounds_toArray, List.set_cons_zero, List.set_cons_succ])
          refine wpAnyH_take (i := 7) (v := ?v60) rfl (by kernel_rfl) (by kernel_rfl) (by kernel_rfl) (fun _ _ _ h => h) (Or.inl ⟨by rfl, ?hy60⟩) (by assumption) ?rest60
          case hy60 => (intro w hSw; (try dsimp only at hSw); simp only [List.getElem_toArray, List.getElem_cons_zero, List.getElem_cons_succ]; go_simp; (try with_reducible rfl))
          (try simp only [Act.put, List.getElem_toArray, List.getElem_cons_zero, List.getElem_cons_succ, List.setIfInBounds_toArray, List.set_cons_zero, List.set_cons_succ])
          refine wpAnyH_ready (rs := [8, 12]) (by kernel_rfl) (by simp) ?_
          refine AllReadyH.cons rfl (fun KK hK => ?_) ?_
          · simp only [List.getElem_toArray, List.getElem_cons_zero, List.getElem_cons_succ]
            go_simp
            refine (alloc_is fSp hz1 hz2 hlb hal).mono ?_
            rintro e VA ⟨rfl, fSp2, o1⟩
            replace fWa := fWa.kept o1 (.inl HOd2.out.1)
            replace fO := fO.past o1 HOd2.out.2.1
            clear fSp
            have fSp := fSp2
            clear fSp2
            refine hK.out _ _ ?hS61 (fun hHeld2 => ?rest61)
            case hS61 => exact ⟨o1.cell hHeld.1 (.inl HOd2.out.1), o1.cell hHeld.2 (.inl (by have := HOd2.out; omega))⟩
            clear o1
            clear hK KK
            (try clear hHeld)
            have hHeld := hHeld2
            clear hHeld2
            (try simp only [Act.put, List.getElem_toArray, List.getElem_cons_zero, List.getElem_cons_succ, List.setIfInBounds_toArray, List.set_cons_zero, List.set_cons_succ])
            refine wpAnyH_take (i := 9) (v := ?v62) rfl (by kernel_rfl) (by kernel_rfl) (by kernel_rfl) (fun _ _ _ h => h) (Or.inl ⟨by rfl, ?hy62⟩) (by assumption) ?rest62
            case hy62 => (intro w hSw; (try dsimp only at hSw); simp only [List.getElem_toArray, List.getElem_cons_zero, List.getElem_cons_succ]; go_simp; (try with_reducible rfl))
            (try simp only [Act.put, List.getElem_toArray, List.getElem_cons_zero, List.getElem_cons_succ, List.setIfInBounds_toArray, List.set_cons_zero, List.set_cons_succ])
            refine wpAnyH_take (i := 10) (v := ?v63) rfl (by kernel_rfl) (by kernel_rfl) (by kernel_rfl) (fun _ _ _ h => h) (Or.inl ⟨by rfl, ?hy63⟩) (by assumption) ?rest63
            case hy63 => (intro w hSw; (try dsimp only at hSw); simp only [List.getElem_toArray, List.getElem_cons_zero, List.getElem_cons_succ]; go_simp; (try with_reducible rfl))
            (try simp only [Act.put, List.getElem_toArray, List.getElem_cons_zero, List.getElem_cons_succ, List.setIfInBounds_toArray, List.set_cons_zero, List.set_cons_succ])
            refine wpAnyH_take (i := 11) (v := ?v64) rfl (by kernel_rfl) (by kernel_rfl) (by kernel_rfl) (fun _ _ _ h => h) (Or.inl ⟨by rfl, ?hy64⟩) (by assumption) ?rest64
            case hy64 => (intro w hSw; (try dsimp only at hSw); simp only [List.getElem_toArray, List.getElem_cons_zero, List.getElem_cons_succ]; go_simp; (try with_reducible rfl))
            (try simp only [Act.put, List.getElem_toArray, List.getElem_cons_zero, List.getElem_cons_succ, List.setIfInBounds_toArray, List.set_cons_zero, List.set_cons_succ])
            refine wpAnyH_ready (rs := [12]) (by kernel_rfl) (by simp) ?_
            refine AllReadyH.cons rfl (fun KK hK => ?_) ?_
            · simp only [List.getElem_toArray, List.getElem_cons_zero, List.getElem_cons_succ]
              go_simp
              obtain ⟨bf, hbf⟩ : ∃ B, VA.heap.size = B := ⟨_, rfl⟩
              obtain ⟨VAF, hW⟩ : ∃ W, VA.alloc (.cells #[.int .i64 0, .int .i64 0] 43) = W := ⟨_, rfl⟩
              have o1 : Out 0 0 VA VAF := by rw [← hW]; exact (Out.refl 0 0 _).alloc _
              have fF : VAF.heap[bf]? = some (.cells #[.int .i64 0, .int .i64 0] 43 (0, 0)) := by rw [← hW, ← hbf]; exact heap_alloc_new _ _
              have nF : hi2 ≤ bf ∧ b2 < bf ∧ w.heap.size ≤ bf := by have h8 := fSp.1.top; have h9 := fWa.lt; have h10 := fO.size; omega
              replace fWa := fWa.kept o1 (.inr (Nat.zero_le _))
              replace fO := fO.trans o1
              replace fSp := fSp.quiet o1
              (try rw [hW])
              (try rw [hbf])
              clear hW hbf
              refine hK.out _ _ ?hS65 (fun hHeld2 => ?rest65)
              case hS65 => exact ⟨o1.cell hHeld.1 (.inr (Nat.zero_le _)), o1.cell hHeld.2 (.inr (Nat.zero_le _))⟩
              clear o1
              clear hK KK
              (try clear hHeld)
              have hHeld := hHeld2
              clear hHeld2
              (try simp only [Act.put, List.getElem_toArray, List.getElem_cons_zero, List.getElem_cons_succ, List.setIfInBounds_toArray, List.set_cons_zero, List.set_cons_succ])
              refine wpAnyH_take (i := 13) (v := ?v66) rfl (by kernel_rfl) (by kernel_rfl) (by kernel_rfl) (fun _ _ _ h => h) (Or.inl ⟨by rfl, ?hy66⟩) (by assumption) ?rest66
              case hy66 => (intro w hSw; (try dsimp only at hSw); simp only [List.getElem_toArray, List.getElem_cons_zero, List.getElem_cons_succ]; go_simp; (try with_reducible rfl))
              (try simp only [Act.put, List.getElem_toArray, List.getElem_cons_zero, List.getElem_cons_succ, List.setIfInBounds_toArray, List.set_cons_zero, List.set_cons_succ])
              refine wpAnyH_ready (rs := [14]) (by kernel_rfl) (by simp) ?_
              refine AllReadyH.cons rfl (fun KK hK => ?_) ?_
              · simp only [List.getElem_toArray, List.getElem_cons_zero, List.getElem_cons_succ]
                obtain ⟨y5, y6, y7, y8⟩ := flt_facts fF
                go_simp
                clear y5 y6 y7 y8
                obtain ⟨XE, hXE⟩ : ∃ W, (VAF.setCell ⟨bf, 0, none⟩ (.int .i64 er)).setCell ⟨bf, 1, none⟩ (.int .i64 ea) = W := ⟨_, rfl⟩
                have o1 : Out bf (bf + 1) VAF XE := by rw [← hXE]; exact (Out.refl _ _ _).set2 (.inl ⟨Nat.le_refl _, Nat.lt_succ_self _⟩) _ _
                have fF2 : XE.heap[bf]? = some (.cells #[.int .i64 er, .int .i64 ea] 43 (0, 0)) := by rw [← hXE]; exact flt_set fF
                rw [hXE]
                clear hXE fF
                have fF := fF2
                clear fF2
                replace fWa := fWa.kept o1 (.inl (by omega))
                replace fO := fO.past o1 (by omega)
                replace fSp := fSp.kept o1 (.inl (by omega)) (.inl (by have := HT.out.lt; omega))
                refine hK.out _ _ ?hS67 (fun hHeld2 => ?rest67)
                case hS67 => exact ⟨o1.cell hHeld.1 (.inl (by omega)), o1.cell hHeld.2 (.inl (by have := HOd2.out; omega))⟩
                clear o1
                clear hK KK
                (try clear hHeld)
                have hHeld := hHeld2
                clear hHeld2
                (try simp only [Act.put, List.getElem_toArray, List.getElem_cons_zero, List.getElem_cons_succ, List.setIfInBounds_toArray, List.set_cons_zero, List.set_cons_succ])
                refine wpAnyH_done (by kernel_rfl) ?_ _
                clear hHeld
                obtain ⟨p0, p1, p2, p3⟩ := flt_facts fF
                have HFn := hid_mk (And.intro fWa (And.intro fSp fO))
                clear fF fWa fSp fO p1 p2 p3 nF
                cases her : (er == 0) with
                | true =>
                  have e0 : er = 0 := by simpa using her
                  subst e0
                  go_wp2
                  go_roundw
                  case rel => exact ⟨i + 1, true, by go_num, rfl, by omega, HFn.out.1, HFn.out.2.2, .inl ⟨rfl, st2, HFn.out.2.1, (HNx.out rfl).1, (HNx.out rfl).2.1, (HNx.out rfl).2.2⟩⟩
                  case measure => simp [intOf]; omega
                | false =>
                  go_wp2
                  go_roundw
                  case rel => exact ⟨i + 1, false, by go_num, rfl, by omega, HFn.out.1, HFn.out.2.2, .inr ⟨rfl, HFl.out her⟩⟩
                  case measure => simp [intOf]; omega
              · exact AllReadyH.nil
            · exact AllReadyH.nil
          · refine AllReadyH.cons rfl (fun KK hK => ?_) ?_
            · simp only [List.getElem_toArray, List.getElem_cons_zero, List.getElem_cons_succ]
              go_simp
              obtain ⟨bf, hbf⟩ : ∃ B, Z6.heap.size = B := ⟨_, rfl⟩
              obtain ⟨VF, hW⟩ : ∃ W, Z6.alloc (.cells #[.int .i64 0, .int .i64 0] 43) = W := ⟨_, rfl⟩
              have o1 : Out 0 0 Z6 VF := by rw [← hW]; exact (Out.refl 0 0 _).alloc _
              have fF : VF.heap[bf]? = some (.cells #[.int .i64 0, .int .i64 0] 43 (0, 0)) := by rw [← hW, ← hbf]; exact heap_alloc_new _ _
              have nF : hi2 ≤ bf ∧ b2 < bf ∧ w.heap.size ≤ bf := by have h8 := fSp.1.top; have h9 := fWa.lt; have h10 := fO.size; omega
              replace fWa := fWa.kept o1 (.inr (Nat.zero_le _))
              replace fO := fO.trans o1
              replace fSp := fSp.quiet o1
              (try rw [hW])
              (try rw [hbf])
              clear hW hbf
              refine hK.out _ _ ?hS68 (fun hHeld2 => ?rest68)
              case hS68 => exact ⟨o1.cell hHeld.1 (.inr (Nat.zero_le _)), o1.cell hHeld.2 (.inr (Nat.zero_le _))⟩
              clear o1
              clear hK KK
              (try clear hHeld)
              have hHeld := hHeld2
              clear hHeld2
              (try simp only [Act.put, List.getElem_toArray, List.getElem_cons_zero, List.getElem_cons_succ, List.setIfInBounds_toArray, List.set_cons_zero, List.set_cons_succ])
              refine wpAnyH_ready (rs := [8]) (by kernel_rfl) (by simp) ?_
              refine AllReadyH.cons rfl (fun KK hK => ?_) ?_
              · simp only [List.getElem_toArray, List.getElem_cons_zero, List.getElem_cons_succ]
                go_simp
                refine (alloc_is fSp hz1 hz2 hlb hal).mono ?_
                rintro e VFA ⟨rfl, fSp2, o1⟩
                replace fF := o1.heap fF (.inr (by omega))
                replace fWa := fWa.kept o1 (.inl HOd2.out.1)
                replace fO := fO.past o1 HOd2.out.2.1
                clear fSp
                have fSp := fSp2
                clear fSp2
                refine hK.out _ _ ?hS69 (fun hHeld2 => ?rest69)
                case hS69 => exact ⟨o1.cell hHeld.1 (.inl HOd2.out.1), o1.cell hHeld.2 (.inl (by have := HOd2.out; omega))⟩
                clear o1
                clear hK KK
                (try clear hHeld)
                have hHeld := hHeld2
                clear hHeld2
                (try simp only [Act.put, List.getElem_toArray, List.getElem_cons_zero, List.getElem_cons_succ, List.setIfInBounds_toArray, List.set_cons_zero, List.set_cons_succ])
                refine wpAnyH_take (i := 9) (v := ?v70) rfl (by kernel_rfl) (by kernel_rfl) (by kernel_rfl) (fun _ _ _ h => h) (Or.inl ⟨by rfl, ?hy70⟩) (by assumption) ?rest70
                case hy70 => (intro w hSw; (try dsimp only at hSw); simp only [List.getElem_toArray, List.getElem_cons_zero, List.getElem_cons_succ]; go_simp; (try with_reducible rfl))
                (try simp only [Act.put, List.getElem_toArray, List.getElem_cons_zero, List.getElem_cons_succ, List.setIfInBounds_toArray, List.set_cons_zero, List.set_cons_succ])
                refine wpAnyH_take (i := 10) (v := ?v71) rfl (by kernel_rfl) (by kernel_rfl) (by kernel_rfl) (fun _ _ _ h => h) (Or.inl ⟨by rfl, ?hy71⟩) (by assumption) ?rest71
                case hy71 => (intro w hSw; (try dsimp only at hSw); simp only [List.getElem_toArray, List.getElem_cons_zero, List.getElem_cons_succ]; go_simp; (try with_reducible rfl))
                (try simp only [Act.put, List.getElem_toArray, List.getElem_cons_zero, List.getElem_cons_succ, List.setIfInBounds_toArray, List.set_cons_zero, List.set_cons_succ])
                refine wpAnyH_take (i := 11) (v := ?v72) rfl (by kernel_rfl) (by kernel_rfl) (by kernel_rfl) (fun _ _ _ h => h) (Or.inl ⟨by rfl, ?hy72⟩) (by assumption) ?rest72
                case hy72 => (intro w hSw; (try dsimp only at hSw); simp only [List.getElem_toArray, List.getElem_cons_zero, List.getElem_cons_succ]; go_simp; (try with_reducible rfl))
                (try simp only [Act.put, List.getElem_toArray, List.getElem_cons_zero, List.getElem_cons_succ, List.setIfInBounds_toArray, List.set_cons_zero, List.set_cons_succ])
                refine wpAnyH_take (i := 13) (v := ?v73) rfl (by kernel_rfl) (by kernel_rfl) (by kernel_rfl) (fun _ _ _ h => h) (Or.inl ⟨by rfl, ?hy73⟩) (by assumption) ?rest73
                case hy73 => (intro w hSw; (try dsimp only at hSw); simp only [List.getElem_toArray, List.getElem_cons_zero, List.getElem_cons_succ]; go_simp; (try with_reducible rfl))
                (try simp only [Act.put, List.getElem_toArray, List.getElem_cons_zero, List.getElem_cons_succ, List.setIfInBounds_toArray, List.set_cons_zero, List.set_cons_succ])
                refine wpAnyH_ready (rs := [14]) (by kernel_rfl) (by simp) ?_
                refine AllReadyH.cons rfl (fun KK hK => ?_) ?_
                · simp only [List.getElem_toArray, List.getElem_cons_zero, List.getElem_cons_succ]
                  obtain ⟨y5, y6, y7, y8⟩ := flt_facts fF
                  go_simp
                  clear y5 y6 y7 y8
                  obtain ⟨XE, hXE⟩ : ∃ W, (VFA.setCell ⟨bf, 0, none⟩ (.int .i64 er)).setCell ⟨bf, 1, none⟩ (.int .i64 ea) = W := ⟨_, rfl⟩
                  have o1 : Out bf (bf + 1) VFA XE := by rw [← hXE]; exact (Out.refl _ _ _).set2 (.inl ⟨Nat.le_refl _, Nat.lt_succ_self _⟩) _ _
                  have fF2 : XE.heap[bf]? = some (.cells #[.int .i64 er, .int .i64 ea] 43 (0, 0)) := by rw [← hXE]; exact flt_set fF
                  rw [hXE]
                  clear hXE fF
                  have fF := fF2
                  clear fF2
                  replace fWa := fWa.kept o1 (.inl (by omega))
                  replace fO := fO.past o1 (by omega)
                  replace fSp := fSp.kept o1 (.inl (by omega)) (.inl (by have := HT.out.lt; omega))
                  refine hK.out _ _ ?hS74 (fun hHeld2 => ?rest74)
                  case hS74 => exact ⟨o1.cell hHeld.1 (.inl (by omega)), o1.cell hHeld.2 (.inl (by have := HOd2.out; omega))⟩
                  clear o1
                  clear hK KK
                  (try clear hHeld)
                  have hHeld := hHeld2
                  clear hHeld2
                  (try simp only [Act.put, List.getElem_toArray, List.getElem_cons_zero, List.getElem_cons_succ, List.setIfInBounds_toArray, List.set_cons_zero, List.set_cons_succ])
                  refine wpAnyH_done (by kernel_rfl) ?_ _
                  clear hHeld
                  obtain ⟨p0, p1, p2, p3⟩ := flt_facts fF
                  have HFn := hid_mk (And.intro fWa (And.intro fSp fO))
                  clear fF fWa fSp fO p1 p2 p3 nF
                  cases her : (er == 0) with
                  | true =>
                    have e0 : er = 0 := by simpa using her
                    subst e0
                    go_wp2
                    go_roundw
                    case rel => exact ⟨i + 1, true, by go_num, rfl, by omega, HFn.out.1, HFn.out.2.2, .inl ⟨rfl, st2, HFn.out.2.1, (HNx.out rfl).1, (HNx.out rfl).2.1, (HNx.out rfl).2.2⟩⟩
                    case measure => simp [intOf]; omega
                  | false =>
                    go_wp2
                    go_roundw
                    case rel => exact ⟨i + 1, false, by go_num, rfl, by omega, HFn.out.1, HFn.out.2.2, .inr ⟨rfl, HFl.out her⟩⟩
                    case measure => simp [intOf]; omega
                · exact AllReadyH.nil
              · exact AllReadyH.nil
            · exact AllReadyH.nil
        · have j1 : ¬ (i : Int) < (zs.length : Int) := by omega
          have j2 : decide ((i : Int) < (zs.length : Int)) = false := decide_eq_false j1
          have hok : ok = true := by rw [jok, List.drop_of_length_le (by omega)]; rfl
          subst hok
          have HO := hid_mk jO
          clear jWa jO jSp jR jl jok
          go_wp2
          go_ret
          exact ⟨rfl, HO.out⟩
end Go.Proofs.YtjbbkeoolodeaacDoor
namespace Go.Proofs.YtjbbkeoolodeaacDoor
open Go.ChangeShapes Go.WideShapes Go.ChangeAt Go.RowKit Go.Deep
set_option linter.unusedVariables false
set_option linter.unusedSimpArgs false

theorem cells_opT : Tryd.prog.cellsOf 56 = 6 := by kernel_rfl
theorem cells_sl : Tryd.prog.cellsOf 23 = 1 := by kernel_rfl
theorem trod_struct6 {H : Type} {enc : TypeId × Value → H} {P : Program} {w : World} {base : Nat} {spare : Nat → Bool} {held : Bool} {t : TypeId} {f0 f1 f2 f3 f4 f5 : Field} {fuel : Nat} {cs : List Value} {x : DataW H × List MemPlace} (ht : P.underlying t = some (.struct #[f0, f1, f2, f3, f4, f5])) (h : DataW.trod enc P w base spare held fuel t cs = some x) :
    ∃ (y0 y1 y2 y3 y4 y5 : DataW H × List MemPlace) (n : Nat), DataW.trod enc P w base spare held n f0.type ((cs.drop f0.offset).take (P.cellsOf f0.type)) = some y0 ∧ DataW.trod enc P w base spare held n f1.type ((cs.drop f1.offset).take (P.cellsOf f1.type)) = some y1 ∧
      DataW.trod enc P w base spare held n f2.type ((cs.drop f2.offset).take (P.cellsOf f2.type)) = some y2 ∧ DataW.trod enc P w base spare held n f3.type ((cs.drop f3.offset).take (P.cellsOf f3.type)) = some y3 ∧ DataW.trod enc P w base spare held n f4.type ((cs.drop f4.offset).take (P.cellsOf f4.type)) = some y4 ∧ DataW.trod enc P w base spare held n f5.type ((cs.drop f5.offset).take (P.cellsOf f5.type)) = some y5 := by
  obtain ⟨xs, n, _, rfl, hl, hlen, hf⟩ := DataW.trod_struct ht h
  match xs, hlen with
  | [y0, y1, y2, y3, y4, y5], _ => exact ⟨y0, y1, y2, y3, y4, y5, n, by simpa using hf 0 f0 rfl, by simpa using hf 1 f1 rfl, by simpa using hf 2 f2 rfl, by simpa using hf 3 f3 rfl, by simpa using hf 4 f4 rfl, by simpa using hf 5 f5 rfl⟩
theorem cell_in {w : World} {a : Addr} {v : Value} (h : w.cell? a = some v) : a.block < w.heap.size := by
  by_cases hb : a.block < w.heap.size
  · exact hb
  · have : w.heap[a.block]? = none := by simp; omega
    simp [World.cell?, this] at h
theorem open_list {H : Type} {enc : TypeId × Value → H} {W : World} {fuel : Nat} {cs : List Value} {x : DataW H × List MemPlace} (h : DataW.trod enc Tryd.prog W 0 (fun _ => true) true fuel 23 cs = some x) :
    ∃ (p : Option Addr) (L : List Int) (cap : Nat), cs = [.slice p L.length cap] ∧ SlI W W.heap.size p L := by
  rcases open_slice1 Tryd.underlying23 cells_int h with h0 | ⟨a, len, cap, m, n, V, D, Pl, rfl, hb, hl, hm, hmm, rfl, hx⟩
  · exact ⟨none, [], 0, h0.1, ⟨(fun x hx => by cases hx), .inl rfl⟩⟩
  simp only [if_true] at hmm
  subst hmm
  have each : ∀ i, i < len → ∃ z : Int, W.cell? (a.add i) = some (.int .i64 z) ∧ -9223372036854775808 ≤ z ∧ z ≤ 9223372036854775807 := by
    intro i hi
    obtain ⟨h1, h2⟩ := hx i (by omega)
    obtain ⟨z, e, _, hw⟩ := DataW.trod_int Tryd.underlying3 h2
    simp only [List.cons.injEq, and_true] at e
    exact ⟨z, by rw [h1, e], i64_bounds hw⟩
  obtain ⟨q, hq⟩ := choose_lt each
  have hlen : ((List.range len).map q).length = len := by simp
  refine ⟨some a, (List.range len).map q, _, by rw [hlen], ⟨fun x hx => ?_, ?_⟩⟩
  · obtain ⟨i, hi, rfl⟩ := List.mem_map.1 hx
    exact (hq i (by simpa using hi)).2
  · by_cases h0 : len = 0
    · left; subst h0; rfl
    · right
      obtain ⟨b, off, spot⟩ := a
      have hspot : spot = none := by
        have := (hq 0 (by omega)).1
        simpa [Addr.add] using World.cell?_spot this
      subst hspot
      refine ⟨b, off, rfl, ?_, fun j x hj => ?_⟩
      · have := cell_in (hq 0 (by omega)).1
        simpa [Addr.add] using this
      · have hj' : j < len := by have := (List.getElem?_eq_some_iff.1 hj).1; simpa using this
        have e : x = q j := by rw [List.getElem?_map, List.getElem?_range hj'] at hj; simpa using hj.symm
        rw [e]
        have := (hq j hj').1
        rw [add_plain] at this
        exact this
def mkO (t : Int × Int × Int × Int × List Int) : OpQ := ⟨t.1, t.2.1, t.2.2.1, t.2.2.2.1, t.2.2.2.2⟩
set_option maxRecDepth 100000 in
set_option maxHeartbeats 1000000 in
theorem open_script {H : Type} {enc : TypeId × Value → H} {W : World} {fuel : Nat} {cs : List Value} {x : DataW H × List MemPlace} (h : DataW.trod enc Tryd.prog W 0 (fun _ => true) true fuel 22 cs = some x) :
    ∃ (p : Option Addr) (os : List OpQ) (cap : Nat), cs = [.slice p os.length cap] ∧ ScrAt W W.heap.size p os := by
  rcases open_slice Tryd.underlying22 h with h0 | ⟨a, len, cap, m, n, D, Pl, rfl, hb, hl, hm, hmm, rfl, hx⟩
  · exact ⟨none, [], 0, h0.1, ⟨(fun x hx => by cases hx), .inl rfl⟩⟩
  simp only [if_true] at hmm
  subst hmm
  have each : ∀ i, i < len → ∃ q : (Int × Int × Int × Int × List Int) × Int × Option Addr × Nat, W.cell? (a.add (i * 6)) = some (.int .i64 q.2.1) ∧ W.cell? (a.add (i * 6 + 1)) = some (.int .i64 (mkO q.1).k) ∧ W.cell? (a.add (i * 6 + 2)) = some (.int .i64 (mkO q.1).a) ∧ W.cell? (a.add (i * 6 + 3)) = some (.int .i64 (mkO q.1).b) ∧
      W.cell? (a.add (i * 6 + 4)) = some (.int .i64 (mkO q.1).c) ∧ W.cell? (a.add (i * 6 + 5)) = some (.slice q.2.2.1 (mkO q.1).L.length q.2.2.2) ∧ SlI W W.heap.size q.2.2.1 (mkO q.1).L ∧ -9223372036854775808 ≤ (mkO q.1).a ∧ (mkO q.1).a ≤ 9223372036854775807 ∧ -9223372036854775808 ≤ (mkO q.1).b ∧ (mkO q.1).b ≤ 9223372036854775807 := by
    intro i hi
    obtain ⟨cs', h1, h2⟩ := hx i (by omega)
    rw [cells_opT] at h1
    obtain ⟨_, hlen, hcell⟩ := World.cells?_some h1
    obtain ⟨y0, y1, y2, y3, y4, y5, n', g0, g1, g2, g3, g4, g5⟩ := trod_struct6 Tryd.underlying56 h2
    match cs', hlen with
    | [v0, v1, v2, v3, v4, v5], _ =>
      simp [cells_int, cells_sl] at g0 g1 g2 g3 g4 g5
      obtain ⟨z0, e0, _, w0⟩ := DataW.trod_int Tryd.underlying3 g0
      obtain ⟨z1, e1, _, w1⟩ := DataW.trod_int Tryd.underlying3 g1
      obtain ⟨z2, e2, _, w2⟩ := DataW.trod_int Tryd.underlying3 g2
      obtain ⟨z3, e3, _, w3⟩ := DataW.trod_int Tryd.underlying3 g3
      obtain ⟨z4, e4, _, w4⟩ := DataW.trod_int Tryd.underlying3 g4
      obtain ⟨lp, L, lc, e5, hSl⟩ := open_list g5
      simp only [List.cons.injEq, and_true] at e0 e1 e2 e3 e4 e5
      have f0 := hcell 0 (by omega)
      have f1 := hcell 1 (by omega)
      have f2 := hcell 2 (by omega)
      have f3 := hcell 3 (by omega)
      have f4 := hcell 4 (by omega)
      have f5 := hcell 5 (by omega)
      rw [add_add] at f0 f1 f2 f3 f4 f5
      obtain ⟨r1, r2⟩ := i64_bounds w2
      obtain ⟨r3, r4⟩ := i64_bounds w3
      exact ⟨((z1, z2, z3, z4, L), z0, lp, lc), by simpa [e0] using f0, by simpa [e1, mkO] using f1, by simpa [e2, mkO] using f2, by simpa [e3, mkO] using f3, by simpa [e4, mkO] using f4, by simpa [e5, mkO] using f5, hSl, r1, r2, r3, r4⟩
  obtain ⟨q, hq⟩ := choose_lt each
  have hlen : ((List.range len).map fun i => mkO (q i).1).length = len := by simp
  have getq : ∀ j o, ((List.range len).map fun i => mkO (q i).1)[j]? = some o → j < len ∧ o = mkO (q j).1 := by
    intro j o hj
    have hj' : j < len := by have := (List.getElem?_eq_some_iff.1 hj).1; simpa using this
    rw [List.getElem?_map, List.getElem?_range hj'] at hj
    exact ⟨hj', by simpa using hj.symm⟩
  refine ⟨some a, (List.range len).map (fun i => mkO (q i).1), _, by rw [hlen], ⟨fun o ho => ?_, ?_⟩⟩
  · obtain ⟨i, hi, rfl⟩ := List.mem_map.1 ho
    exact (hq i (by simpa using hi)).2.2.2.2.2.2.2
  · by_cases h0 : len = 0
    · left; subst h0; rfl
    · right
      obtain ⟨b, off, spot⟩ := a
      have hspot : spot = none := by
        have := (hq 0 (by omega)).1
        simpa [Addr.add] using World.cell?_spot this
      subst hspot
      refine ⟨b, off, rfl, ?_, fun j o hj => ?_⟩
      · have := cell_in (hq 0 (by omega)).1
        simpa [Addr.add] using this
      · obtain ⟨hj', rfl⟩ := getq j o hj
        obtain ⟨c0, c1, c2, c3, c4, c5, c6, _⟩ := hq j hj'
        rw [add_plain] at c0 c1 c2 c3 c4 c5
        exact ⟨_, _, _, c0, by rw [Nat.add_assoc]; exact c1, by rw [Nat.add_assoc]; exact c2, by rw [Nat.add_assoc]; exact c3, by rw [Nat.add_assoc]; exact c4, by rw [Nat.add_assoc]; exact c5, c6⟩
end Go.Proofs.YtjbbkeoolodeaacDoor
