import Derived.Test.YtcpignkjlnjjmaaGreatDoorNb03
import Derived.Test.YtcpignkjlnjjmaaGreatDoorNb02
namespace Go.Proofs.YtcpignkjlnjjmaaGreatDoor
open Go.RowKit
set_option linter.unusedVariables false
set_option linter.unusedSimpArgs false

theorem told9 {n : Nat} (st : Sp) : Told (rawOf n st) := by
  intro a ha
  have h : ob n st a = true := ha
  unfold ob at h
  rw [Bool.and_eq_true] at h
  exact ⟨st.O a, raw_at h.2⟩
theorem DmpIs.word {w : World} {base n : Nat} {r : Raw} {gw cw gp cp : Nat} {vb : Value} (h : DmpIs w base n r gw cw gp cp vb) : base ≤ gw ∧ gw < w.heap.size ∧ ∀ c, c < 64 * n → w.cell? ⟨gw, c, none⟩ = some (.int .i64 (r.W c)) := by
  obtain ⟨h1, h2⟩ := h.1
  rcases h2 with ⟨e, _⟩ | ⟨g, cap, cur, e, h3, h4, h5, h6, h7, h8⟩
  · cases e
  · cases e
    refine ⟨h3, (Array.getElem?_eq_some_iff.1 h4).1, fun c hc => ?_⟩
    have e8 : (cur.toList.take (64 * n * 1))[c]? = ((List.range (64 * n)).map fun i => Value.int .i64 (r.W i))[c]? := by rw [h8]
    rw [List.getElem?_take, if_pos (by omega), List.getElem?_map, List.getElem?_range hc] at e8
    have : cur[c]? = some (.int .i64 (r.W c)) := by simpa using e8
    simp [World.cell?, h4, this]
theorem field_w (v1 v2 v3 v4 v5 v6 v7 v8 v9 va vb : Value) (o : Option Addr) (n c : Nat) (w : World) : (Instr.field 65 (.agg #[.slice o n c, v1, v2, v3, v4, v5, v6, v7, v8, v9, va, vb]) 0).run Tryz.prog w = .ok (.slice o n c) w := by
  kernel_rfl
set_option maxRecDepth 100000 in
set_option maxHeartbeats 8000000 in
theorem writes_any {w : World} (hT : Tab w) {p : Option Addr} {L : List Int} {cap0 : Nat} (hL : SlI w w.heap.size p L) {pp : Option Addr} {os : List (Int × Int × Int × Int)} {cap1 : Nat} (hP : PutsAt w w.heap.size pp os) :
    Calls Tryz.prog 5 #[.slice p L.length cap0, .slice pp os.length cap1] w fun e w' => e = .returned (.bool true) ∧ Out 0 0 w w' := by
  have HT := hid_mk hT
  have HL := hid_mk hL
  have HP := hid_mk hP
  clear hT hL hP
  go_enter Tryz.func5, Tryz.ntmps5
  go_wp2_with fail
  refine (alive_any HT.out).mono ?_
  rintro e X1 ⟨rfl, o1⟩
  have HO1 := hid_mk o1
  have HMd := hid_mk (made_any (cap0 := cap0) (HT.out.quiet o1) ((HL.out.kept o1 (.inr rfl)).mono o1.size))
  clear o1 HT HL
  go_wp2_with fail
  refine HMd.out.mono ?_
  rintro e X2 ⟨hi, s, cap, hb, st0, l, lv, rfl, hM, hh, h12⟩
  clear HMd
  obtain ⟨lo, hlo⟩ : ∃ lo, X1.heap.size = lo := ⟨_, rfl⟩
  have HLO := hid_mk hlo
  have HWl : Hid (w.heap.size ≤ lo) := by rw [← hlo]; exact HO1.out.size
  rw [hlo] at hM
  clear hlo
  obtain ⟨po, pc, rfl, hat0⟩ := hM.2.2.2.1.at
  clear hat0
  by_cases h0 : l.length = 0
  · have h0' : (l.length : Int) = 0 := by omega
    have HE := hid_mk (HO1.out.trans hM.2.2.2.2.2)
    clear hM hh h12 h0
    go_wp2
    go_ret
    exact ⟨rfl, HE.out⟩
  have HM0 := hid_mk hM
  have Hh := hid_mk hh
  have Hl := hid_mk (And.intro h0 h12)
  have l1 : (1 : Int) ≤ (l.length : Int) := by omega
  have l2 : ((l.length : Int) == 0) = false := by rw [beq_eq_false_iff_ne]; omega
  clear hM hh h0 h12
  go_wp2_with fail
  go_loopw [8] (fun x wr => ∃ (k : Nat) (st : Sp), k ≤ 60 ∧ x = .int .i64 k ∧ Md X1 lo hi s cap hb (.slice po l.length pc) wr st l) (fun x _ => 60 - (intOf x).toNat)
  case atStart => exact ⟨0, st0, Nat.zero_le _, rfl, HM0.out⟩
  case round =>
    obtain ⟨k, st, k1, rfl, hM⟩ := hrel
    have HM := hid_mk hM
    have k0 : (0 : Int) ≤ (k : Int) := by omega
    clear HM0
    by_cases hgo : k < os.length
    · have g1 : (k : Int) < (os.length : Int) := by omega
      by_cases h60 : k < 60
      · have g2 : (k : Int) < 60 := by omega
        have Hk := hid_mk (And.intro hgo h60)
        obtain ⟨⟨of_, A, xk, xn⟩, hput⟩ : ∃ o, os[k]? = some o := ⟨_, List.getElem?_eq_getElem hgo⟩
        obtain ⟨hb1, hb2, hb3⟩ := HP.out.1 _ (List.mem_of_getElem? hput)
        rcases HP.out.2 with e | ⟨pg, poff, rfl, hpg, hpc⟩
        · rw [e] at hgo; simp at hgo
        obtain ⟨p0, p1, p2, p3⟩ := hpc k _ hput
        dsimp only at hb1 hb2 hb3 p0 p1 p2 p3
        have HPc := hid_mk (And.intro p0 (And.intro p1 (And.intro p2 p3)))
        have Hpg : Hid (pg < w.heap.size) := hpg
        have oW := HO1.out.trans hM.2.2.2.2.2
        have c0 := oW.cell p0 (.inr (Nat.zero_le _))
        have HW := hid_mk (fun w => within_any of_ l.length (by have := Hl.out; omega) (by have := Hl.out; omega) hb1.1 hb1.2 w)
        have HW2 := hid_mk (fun w => within_any xn l.length (by have := Hl.out; omega) (by have := Hl.out; omega) hb3.1 hb3.2 w)
        have HA := hid_mk hb2
        have HOw := hid_mk oW
        clear hM hgo h60 hput hpg hpc p0 p1 p2 p3 hb1 hb2 hb3 oW HP k1
        go_wp2_with fail
        refine (HW.out _).mono ?_
        rintro e X3 ⟨j, hj, rfl, rfl⟩
        clear HW c0
        obtain ⟨q, hq⟩ : ∃ q, l[j]? = some q := ⟨_, List.getElem?_eq_getElem hj⟩
        obtain ⟨po', pc', hpo, hat⟩ := HM.out.2.2.2.1.at
        cases hpo
        obtain ⟨g, rfl, hg1, hg2, c1, c2⟩ := hat j q hq
        have HAt := hid_mk hat
        have HqO := hid_mk (HM.out.2.2.2.2.1 q (List.mem_of_getElem? hq))
        have j1 : (j : Int) < (l.length : Int) := by omega
        have j0 : (0 : Int) ≤ (j : Int) := by omega
        have oV := (Out.refl 0 0 X3).alloc (.cells #[.int .i64 2, .int .i64 (q : Int)] 31)
        have d0 := oV.cell (HOw.out.cell HPc.out.1 (.inr (Nat.zero_le _))) (.inr (Nat.zero_le _))
        have d2 := oV.cell (HOw.out.cell HPc.out.2.2.1 (.inr (Nat.zero_le _))) (.inr (Nat.zero_le _))
        have d3 := oV.cell (HOw.out.cell HPc.out.2.2.2 (.inr (Nat.zero_le _))) (.inr (Nat.zero_le _))
        have HoV := hid_mk (oV.alloc (.cells #[.int .i64 xk, .int .i64 xn] 31))
        have fV := hid_mk (two_first (w := X3) (o := .cells #[.int .i64 2, .int .i64 (q : Int)] 31) (o2 := .cells #[.int .i64 xk, .int .i64 xn] 31))
        have fW := hid_mk (two_second (w := X3) (o := .cells #[.int .i64 2, .int .i64 (q : Int)] 31) (o2 := .cells #[.int .i64 xk, .int .i64 xn] 31))
        have Hgv : Hid (hi ≤ X3.heap.size) := HM.out.1.1.top
        clear hq hj hg1 hg2 hat oV
        by_cases h100 : xk = 100
        · subst h100
          go_wp2_with fail
          refine (HW2.out _).mono ?_
          rintro e X4 ⟨j2, hj2, rfl, rfl⟩
          obtain ⟨q2, hq2⟩ : ∃ q, l[j2]? = some q := ⟨_, List.getElem?_eq_getElem hj2⟩
          obtain ⟨g', hgg, hg1, hg2, c3, c4⟩ := HAt.out j2 q2 hq2
          cases hgg
          have j3 : (j2 : Int) < (l.length : Int) := by omega
          have j4 : (0 : Int) ≤ (j2 : Int) := by omega
          have c5 := HoV.out.cell c3 (.inr (Nat.zero_le _))
          have c6 := HoV.out.cell c4 (.inr (Nat.zero_le _))
          obtain ⟨b0, b1, b2, b3⟩ := val_facts fW.out
          have o3 := ((Out.refl 0 0 X3).alloc (.cells #[.int .i64 2, .int .i64 (q : Int)] 31)).alloc (.cells #[.int .i64 2, .int .i64 (q2 : Int)] 31)
          have HV := hid_mk (HM.out.quiet o3)
          have y6 := HV.out.2.2.1
          have fW' := hid_mk (two_second (w := X3) (o := .cells #[.int .i64 2, .int .i64 (q : Int)] 31) (o2 := .cells #[.int .i64 2, .int .i64 (q2 : Int)] 31))
          have fV' := hid_mk (two_first (w := X3) (o := .cells #[.int .i64 2, .int .i64 (q : Int)] 31) (o2 := .cells #[.int .i64 2, .int .i64 (q2 : Int)] 31))
          have HOv := hid_mk (HOw.out.trans o3)
          clear hq2 hj2 hg1 hg2 c3 c4 o3 fV fW HM HW2 HAt
          go_wp2_with fail
          clear y6 b0 b1 b2 b3 c1 c2 c5 c6 d0 d2 d3
          obtain ⟨V3, hV3⟩ : ∃ V, (X3.alloc (.cells #[.int .i64 2, .int .i64 (q : Int)] 31)).alloc (.cells #[.int .i64 2, .int .i64 (q2 : Int)] 31) = V := ⟨_, rfl⟩
          obtain ⟨gv, hgv⟩ : ∃ g, X3.heap.size = g := ⟨_, rfl⟩
          have HOv' := HOv.out
          rw [hV3] at HV fV' fW' HOv' ⊢
          rw [hgv] at fV' fW' Hgv
          (try rw [hgv])
          clear hV3 hgv HOv HoV HOw
          have HOv := hid_mk HOv'
          have fV := fV'
          have fW := fW'
          clear HOv' fV' fW'
          have HD := hid_mk (dump_any HV.out.1.1 (told9 st))
          refine HD.out.mono ?_
          rintro e V4 ⟨gd, cd, gp, cp, vb, rfl, hD, o4⟩
          clear HD
          have Hgd := hid_mk (And.intro hD.word.1 hD.word.2.1)
          have HDw := hid_mk hD.word.2.2
          have HV4 := hid_mk (HV.out.quiet o4)
          have fV4 := hid_mk (o4.heap fV.out (.inr (Nat.zero_le _)))
          have fW4 := hid_mk (o4.heap fW.out (.inr (Nat.zero_le _)))
          have HO4 := hid_mk (HOv.out.trans o4)
          have HtopV : Hid (hi ≤ V4.heap.size) := HV4.out.1.1.top
          have Hgd2 : Hid (hi ≤ gd) := Nat.le_trans HV.out.1.1.top Hgd.out.1
          clear hD o4 HV fV fW HOv
          obtain ⟨u0, u1, u2, u3⟩ := val_facts fV4.out
          obtain ⟨b0, b1, b2, b3⟩ := val_facts fW4.out
          have a0 := HO4.out.cell HPc.out.2.1 (.inr (Nat.zero_le _))
          have Hpl : Hid (pg < lo) := Nat.lt_of_lt_of_le Hpg.out HWl.out
          have Hlow : Hid (gv + 1 < V4.heap.size ∧ pg < V4.heap.size) := ⟨cell_lt b0, cell_lt a0⟩
          obtain ⟨e0, he0⟩ : ∃ e, stE 4 st q A (2) ((q2 : Int)) = e := ⟨_, rfl⟩
          obtain ⟨st1, hst1⟩ : ∃ t, stS 4 st q A (2) ((q2 : Int)) = t := ⟨_, rfl⟩
          have HSt := hid_mk (fun X (o : Out 0 0 V4 X) => Set_st (HV4.out.1.quiet o) HV4.out.2.1 (o.cell HV4.out.2.2.1 (.inr (Nat.zero_le _))) Hh.out HqO.out A (2) ((q2 : Int)) he0 hst1)
          have Hst := hid_mk (And.intro he0 hst1)
          clear he0 hst1
          have hfw := field_w
          go_wp2_with fail
          refine wp_region_held_drew (S := fun w' => w'.cell? ⟨gv, 0, none⟩ = some (.int .i64 2) ∧ w'.cell? ⟨gv, 1, none⟩ = some (.int .i64 (q : Int)) ∧ w'.cell? ⟨pg, poff + k * 4 + 1, none⟩ = some (.int .i64 A) ∧ w'.cell? ⟨gv + 1, 0, none⟩ = some (.int .i64 2) ∧ w'.cell? ⟨gv + 1, 1, none⟩ = some (.int .i64 (q2 : Int))) (by kernel_rfl) ?hS61 (fun hHeld => ?rest61)
          case hS61 => exact ⟨u0, u1, a0, b0, b1⟩
          obtain ⟨Z, hZ⟩ : ∃ Z, V4.drew = Z := ⟨_, rfl⟩
          have O : Out 0 0 V4 Z := by rw [← hZ]; exact (Out.refl 0 0 _).drew
          rw [hZ] at hHeld ⊢
          clear hZ
          refine tk 0 ?_
          refine tk 1 ?_
          refine tk 2 ?_
          refine tk 3 ?_
          refine tk 4 ?_
          refine tk 5 ?_
          refine tk 6 ?_
          refine tk 7 ?_
          refine wpAnyH_ready (rs := [8, 9]) (by kernel_rfl) (by simp) ?_
          refine AllReadyH.cons rfl (fun KK hK => ?_) ?_
          · simp only [xa, xb, xc]
            go_simp
            refine (HSt.out _ O).mono ?_
            rintro e ZC ⟨rfl, P9, q1⟩
            have OL := (O.any lo hi).trans q1
            refine hK.out _ _ ?hS70 (fun hHeld2 => ?rest70)
            case hS70 => exact ⟨q1.cell hHeld.1 (.inr Hgv.out), q1.cell hHeld.2.1 (.inr Hgv.out), q1.cell hHeld.2.2.1 (.inl Hpl.out), q1.cell hHeld.2.2.2.1 (.inr (Nat.le_succ_of_le Hgv.out)), q1.cell hHeld.2.2.2.2 (.inr (Nat.le_succ_of_le Hgv.out))⟩
            clear q1 O
            clear hK KK
            (try clear hHeld)
            have hHeld := hHeld2
            clear hHeld2
            (try simp only [Act.put, xa, xb, xc, xd, xe, xf])
            refine wpAnyH_ready (rs := [9]) (by kernel_rfl) (by simp) ?_
            refine AllReadyH.cons rfl (fun KK hK => ?_) ?_
            · simp only [xa, xb, xc]
              go_simp
              obtain ⟨gA, hgf⟩ : ∃ g, ZC.heap.size = g := ⟨_, rfl⟩
              obtain ⟨ZCA, hY⟩ : ∃ V, ZC.alloc (.cells #[.int .i64 0, .int .i64 0] 33) = V := ⟨_, rfl⟩
              have qA : Out 0 0 ZC ZCA := by rw [← hY]; exact (Out.refl 0 0 _).alloc _
              have fA : ZCA.heap[gA]? = some (.cells #[.int .i64 0, .int .i64 0] 33 (0, 0)) := by rw [← hY, ← hgf]; exact heap_alloc_new _ _
              have hgA : V4.heap.size ≤ gA := by have := OL.size; omega
              (try rw [hY])
              (try rw [hgf])
              clear hY hgf
              replace P9 := P9.quiet qA
              replace OL := OL.trans (qA.any lo hi)
              refine hK.out _ _ ?hS71 (fun hHeld2 => ?rest71)
              case hS71 => exact ⟨qA.cell hHeld.1 (.inr (Nat.zero_le _)), qA.cell hHeld.2.1 (.inr (Nat.zero_le _)), qA.cell hHeld.2.2.1 (.inr (Nat.zero_le _)), qA.cell hHeld.2.2.2.1 (.inr (Nat.zero_le _)), qA.cell hHeld.2.2.2.2 (.inr (Nat.zero_le _))⟩
              clear qA
              clear hK KK
              (try clear hHeld)
              have hHeld := hHeld2
              clear hHeld2
              (try simp only [Act.put, xa, xb, xc, xd, xe, xf])
              refine wpAnyH_ready (rs := [10]) (by kernel_rfl) (by simp) ?_
              refine AllReadyH.cons rfl (fun KK hK => ?_) ?_
              · simp only [xa, xb, xc]
                obtain ⟨y0, y1, y2, y3⟩ := flt_facts fA
                go_simp
                clear y0 y1 y2 y3
                obtain ⟨ZCAS, hY⟩ : ∃ V, ((ZCA.setCell ⟨gA, 0, none⟩ (.int .i64 e0)).setCell ⟨gA, 1, none⟩ (.int .i64 0)) = V := ⟨_, rfl⟩
                have qS : Out gA (gA + 1) ZCA ZCAS := by rw [← hY]; exact ((Out.refl _ _ _).setCell (p := ⟨gA, 0, none⟩) (.inl ⟨Nat.le_refl _, Nat.lt_succ_self _⟩) _).setCell (p := ⟨gA, 1, none⟩) (.inl ⟨Nat.le_refl _, Nat.lt_succ_self _⟩) _
                replace OL : Out lo hi V4 ZCAS := by rw [← hY]; exact (OL.setCell (p := ⟨gA, 0, none⟩) (.inr hgA) _).setCell (p := ⟨gA, 1, none⟩) (.inr hgA) _
                have fB : ZCAS.heap[gA]? = some (.cells #[.int .i64 e0, .int .i64 0] 33 (0, 0)) := by rw [← hY]; exact flt_set fA
                have P10 : SpAt ZCAS lo hi s 4 cap st1 := P9.kept qS (.inl (by have h1 := HtopV.out; omega)) (.inl (by have h1 := HtopV.out; have h2 := P9.1.glob; have h3 := P9.1.inn 0 (by omega); omega))
                (try rw [hY])
                clear hY fA P9
                refine hK.out _ _ ?hS72 (fun hHeld2 => ?rest72)
                case hS72 => exact ⟨qS.cell hHeld.1 (.inl (by have h1 := Hlow.out; omega)), qS.cell hHeld.2.1 (.inl (by have h1 := Hlow.out; omega)), qS.cell hHeld.2.2.1 (.inl (by have h1 := Hlow.out; omega)), qS.cell hHeld.2.2.2.1 (.inl (by have h1 := Hlow.out; omega)), qS.cell hHeld.2.2.2.2 (.inl (by have h1 := Hlow.out; omega))⟩
                clear qS
                clear hK KK
                (try clear hHeld)
                have hHeld := hHeld2
                clear hHeld2
                (try simp only [Act.put, xa, xb, xc, xd, xe, xf])
                refine wpAnyH_done (by kernel_rfl) ?_ _
                clear hHeld u0 u1 u2 u3 a0 b0 b1 b2 b3 HSt hgA
                obtain ⟨r1, r2⟩ := st_right (i := A) (xk := 2) (xn := (q2 : Int)) HV4.out.1.2 HV4.out.2.1 HqO.out
                rw [Hst.out.2] at r1 r2
                have HV5 := hid_mk (HV4.out.make Hh.out (Nat.le_of_eq HLO.out) P10 r1 (fun b _ => by rw [r2]) OL)
                have fV5 := hid_mk (OL.heap fV4.out (.inr Hgv.out))
                have fW5 := hid_mk (OL.heap fW4.out (.inr (Nat.le_succ_of_le Hgv.out)))
                have HO5 := hid_mk (HO4.out.then OL HWl.out)
                have HD5 : Hid (∀ c, c < 64 * 4 → ZCAS.cell? ⟨gd, c, none⟩ = some (.int .i64 (st.W c))) := fun c hc => OL.cell (HDw.out c hc) (.inr Hgd2.out)
                have HqO1 : Hid (hasB (st1.O q) = true) := by rw [r2]; exact HqO.out
                have fF5 := hid_mk fB
                have y6 := HV5.out.2.2.1
                clear r1 r2 P10 OL fB HV4 fV4 fW4 HO4 HDw
                go_wp2_with fail
                clear y6
                have HD := hid_mk (dump_any HV5.out.1.1 (told9 st1))
                refine HD.out.mono ?_
                rintro e V6 ⟨gn, cn, gp2, cp2, vb2, rfl, hD, o6⟩
                clear HD
                have HD6 : Hid (∀ c, c < 64 * 4 → V6.cell? ⟨gd, c, none⟩ = some (.int .i64 (st.W c)) ∧ V6.cell? ⟨gn, c, none⟩ = some (.int .i64 (st1.W c))) := fun c hc => ⟨o6.cell (HD5.out c hc) (.inr (Nat.zero_le _)), hD.word.2.2 c hc⟩
                have HV6 := hid_mk (HV5.out.quiet o6)
                have fV6 := hid_mk (o6.heap fV5.out (.inr (Nat.zero_le _)))
                have fW6 := hid_mk (o6.heap fW5.out (.inr (Nat.zero_le _)))
                have fF6 := hid_mk (o6.heap fF5.out (.inr (Nat.zero_le _)))
                have HO6 := hid_mk (HO5.out.trans o6)
                clear hD o6 HD5 HV5 fV5 fW5 fF5 HO5
                go_wp2_with fail
                go_loopw [14] (fun x wr => ∃ c : Nat, c ≤ 256 ∧ x = .int .i64 c ∧ Out 0 0 V6 wr) (fun x _ => 256 - (intOf x).toNat)
                case atStart => exact ⟨0, Nat.zero_le _, rfl, Out.refl _ _ _⟩
                case round =>
                  obtain ⟨c, c9, rfl, o7⟩ := hrel
                  have c0 : (0 : Int) ≤ (c : Int) := by omega
                  by_cases hc : c < 256
                  · have hc' : (c : Int) < 256 := by omega
                    obtain ⟨d0', d1'⟩ := HD6.out c (by omega)
                    have d0 := o7.cell d0' (.inr (Nat.zero_le _))
                    have d1 := o7.cell d1' (.inr (Nat.zero_le _))
                    clear d0' d1'
                    go_wp2_with fail
                    refine wp_region_held_drew (S := fun w' => w'.cell? ⟨gd, c, none⟩ = some (.int .i64 (st.W c)) ∧ w'.cell? ⟨gn, c, none⟩ = some (.int .i64 (st1.W c)) ∧ Out 0 0 V6 w') (by kernel_rfl) ?hS114 (fun hHeld => ?rest114)
                    case hS114 => exact ⟨d0, d1, o7.drew⟩
                    refine tk 0 ?_
                    refine tk 1 ?_
                    refine tk 2 ?_
                    refine tk 3 ?_
                    refine tk 4 ?_
                    refine tk 5 ?_
                    refine tk 6 ?_
                    refine tk 7 ?_
                    refine tk 8 ?_
                    refine wpAnyH_done (by kernel_rfl) ?_ _
                    have hHeld7 := hHeld.2.2
                    obtain ⟨Z7, hZ7⟩ : ∃ Z, wr.drew = Z := ⟨_, rfl⟩
                    rw [hZ7] at hHeld hHeld7 ⊢
                    clear hZ7
                    by_cases hne : st.W c = st1.W c
                    · have o9 := hid_mk hHeld7
                      clear hHeld hHeld7 d0 d1 o7
                      rw [hne]
                      go_wp2
                      go_roundw
                      case rel => exact ⟨c + 1, by omega, by go_num, o9.out⟩
                      case measure => simp [intOf]; omega
                    have hne' : (st.W c == st1.W c) = false := by simpa using hne
                    have hwd0 := st_word (n := 4) (k := c) (st := st) (i := A) (xk := 2) (xn := (q2 : Int)) (by omega) HqO.out (by rw [Hst.out.2]; exact hne)
                    rw [Hst.out.1, Hst.out.2] at hwd0
                    obtain ⟨he0, hcA, hrg, hvx, hwd⟩ := hwd0
                    have fF7 := fF6.out
                    rw [he0] at fF7
                    have f0 := hHeld7.cell (flt_facts fF7).1 (.inr (Nat.zero_le _))
                    have v1 := hHeld7.cell (val_facts fV6.out).2.1 (.inr (Nat.zero_le _))
                    have w0 := hHeld7.cell (val_facts fW6.out).1 (.inr (Nat.zero_le _))
                    have w1 := hHeld7.cell (val_facts fW6.out).2.1 (.inr (Nat.zero_le _))
                    have a0 := hHeld7.cell (HO6.out.cell HPc.out.2.1 (.inr (Nat.zero_le _))) (.inr (Nat.zero_le _))
                    have dn := hHeld.2.1
                    have HRg : Hid (∀ X, Out 0 0 V6 X → Calls Tryz.prog 17 #[.pointer (some ⟨hb, 0, none⟩), .int .i64 (q : Int), .int .i64 A, .int .i64 (st1.W c)] X fun e w' => e = .returned (.bool true) ∧ Out 0 0 X w') := fun X o => by
                      have h := Right_any (HV6.out.1.quiet o).1 (arenaO HV6.out.1.2) (o.cell HV6.out.2.2.1 (.inr (Nat.zero_le _))) (q : Int) A (st1.W c)
                      rw [hrg] at h
                      exact h
                    have Hx3 := hid_mk hvx
                    have hwr : IntKind.i64.wrap ((q : Int) + A) = (q : Int) + A := by rw [← hcA, IntKind.wrap_i64]; omega
                    have m1 : -9223372036854775808 ≤ (q : Int) + A := by rw [← hcA]; omega
                    have m2 : (q : Int) + A ≤ 9223372036854775807 := by rw [← hcA]; omega
                    have e1 : ((c : Int) != (q : Int) + A) = false := by rw [← hcA]; simp
                    have e2 : (st1.W c != ((q2 : Int)) * 8 + (2) - 1) = false := by rw [hwd]; simp
                    clear hHeld d0 d1 hne hrg hvx hwd hcA fF7 he0 o7
                    go_wp2_with fail
                    refine wp_region_held_drew (S := fun w' => w'.cell? ⟨gA, 0, none⟩ = some (.int .i64 0) ∧ w'.cell? ⟨gv, 1, none⟩ = some (.int .i64 (q : Int)) ∧ w'.cell? ⟨pg, poff + k * 4 + 1, none⟩ = some (.int .i64 A) ∧ w'.cell? ⟨gn, c, none⟩ = some (.int .i64 (st1.W c)) ∧ w'.cell? ⟨gv + 1, 0, none⟩ = some (.int .i64 2) ∧ w'.cell? ⟨gv + 1, 1, none⟩ = some (.int .i64 (q2 : Int)) ∧ Out 0 0 V6 w') (by kernel_rfl) ?hS73 (fun hHeld => ?rest73)
                    case hS73 => exact ⟨f0, v1, a0, dn, w0, w1, hHeld7.drew⟩
                    refine tk 0 ?_
                    refine tk 1 ?_
                    refine tk 2 ?_
                    refine tk 3 ?_
                    refine tk 4 ?_
                    refine tk 5 ?_
                    refine tk 6 ?_
                    refine tk 7 ?_
                    refine tk 8 ?_
                    refine tk 9 ?_
                    refine tk 10 ?_
                    refine tk 11 ?_
                    refine tk 12 ?_
                    refine tk 13 ?_
                    refine tk 14 ?_
                    refine tk 15 ?_
                    refine tk 16 ?_
                    refine tk 17 ?_
                    refine tk 18 ?_
                    refine tk 19 ?_
                    refine tk 20 ?_
                    refine tk 21 ?_
                    refine tk 22 ?_
                    refine tk 23 ?_
                    refine tk 24 ?_
                    refine tk 25 ?_
                    refine tk 26 ?_
                    refine tk 27 ?_
                    refine wpAnyH_ready (rs := [28]) (by kernel_rfl) (by simp) ?_
                    refine AllReadyH.cons rfl (fun KK hK => ?_) AllReadyH.nil
                    simp only [xa, xb, xc]
                    go_simp
                    refine (HRg.out _ hHeld.2.2.2.2.2.2).mono ?_
                    rintro e X7 ⟨rfl, q7⟩
                    refine hK.out _ _ ?hS102 (fun hHeld2 => ?rest102)
                    case hS102 => exact ⟨q7.cell hHeld.1 (.inr (Nat.zero_le _)), q7.cell hHeld.2.1 (.inr (Nat.zero_le _)), q7.cell hHeld.2.2.1 (.inr (Nat.zero_le _)), q7.cell hHeld.2.2.2.1 (.inr (Nat.zero_le _)), q7.cell hHeld.2.2.2.2.1 (.inr (Nat.zero_le _)), q7.cell hHeld.2.2.2.2.2.1 (.inr (Nat.zero_le _)), hHeld.2.2.2.2.2.2.trans q7⟩
                    clear q7
                    clear hK KK
                    (try clear hHeld)
                    have hHeld := hHeld2
                    clear hHeld2
                    (try simp only [Act.put, xa, xb, xc, xd, xe, xf])
                    refine tk 29 ?_
                    refine tk 30 ?_
                    refine tk 31 ?_
                    refine tk 32 ?_
                    refine tk 33 ?_
                    refine tk 34 ?_
                    refine tk 35 ?_
                    refine tk 36 ?_
                    refine wpAnyH_ready (rs := [37]) (by kernel_rfl) (by simp) ?_
                    refine AllReadyH.cons rfl (fun KK hK => ?_) AllReadyH.nil
                    simp only [xa, xb, xc]
                    go_simp
                    refine (word_any Hx3.out _).mono ?_
                    rintro e X8 ⟨rfl, q7⟩
                    refine hK.out _ _ ?hS111 (fun hHeld2 => ?rest111)
                    case hS111 => exact ⟨q7.cell hHeld.1 (.inr (Nat.zero_le _)), q7.cell hHeld.2.1 (.inr (Nat.zero_le _)), q7.cell hHeld.2.2.1 (.inr (Nat.zero_le _)), q7.cell hHeld.2.2.2.1 (.inr (Nat.zero_le _)), q7.cell hHeld.2.2.2.2.1 (.inr (Nat.zero_le _)), q7.cell hHeld.2.2.2.2.2.1 (.inr (Nat.zero_le _)), hHeld.2.2.2.2.2.2.trans q7⟩
                    clear q7
                    clear hK KK
                    (try clear hHeld)
                    have hHeld := hHeld2
                    clear hHeld2
                    (try simp only [Act.put, xa, xb, xc, xd, xe, xf])
                    refine tk 38 ?_
                    refine tk 39 ?_
                    refine wpAnyH_done (by kernel_rfl) ?_ _
                    have o9 := hid_mk hHeld.2.2.2.2.2.2
                    clear hHeld
                    go_wp2
                    go_roundw
                    case rel => exact ⟨c + 1, by omega, by go_num, o9.out⟩
                    case measure => simp [intOf]; omega
                  · have hc' : (256 : Int) ≤ (c : Int) := by omega
                    have HVe := hid_mk (HV6.out.quiet o7)
                    go_wp2
                    go_roundw
                    case rel => exact ⟨k + 1, st1, by have := Hk.out.2; omega, by go_num, HVe.out⟩
                    case measure => have := Hk.out.2; simp [intOf]; omega
              · exact AllReadyH.nil
            · exact AllReadyH.nil
          · refine AllReadyH.cons rfl (fun KK hK => ?_) ?_
            · simp only [xa, xb, xc]
              go_simp
              obtain ⟨gA, hgf⟩ : ∃ g, Z.heap.size = g := ⟨_, rfl⟩
              obtain ⟨ZA, hY⟩ : ∃ V, Z.alloc (.cells #[.int .i64 0, .int .i64 0] 33) = V := ⟨_, rfl⟩
              have qA : Out 0 0 Z ZA := by rw [← hY]; exact (Out.refl 0 0 _).alloc _
              have fA : ZA.heap[gA]? = some (.cells #[.int .i64 0, .int .i64 0] 33 (0, 0)) := by rw [← hY, ← hgf]; exact heap_alloc_new _ _
              have hgA : V4.heap.size ≤ gA := by have := O.size; omega
              (try rw [hY])
              (try rw [hgf])
              clear hY hgf
              replace O := O.trans qA
              refine hK.out _ _ ?hS124 (fun hHeld2 => ?rest124)
              case hS124 => exact ⟨qA.cell hHeld.1 (.inr (Nat.zero_le _)), qA.cell hHeld.2.1 (.inr (Nat.zero_le _)), qA.cell hHeld.2.2.1 (.inr (Nat.zero_le _)), qA.cell hHeld.2.2.2.1 (.inr (Nat.zero_le _)), qA.cell hHeld.2.2.2.2 (.inr (Nat.zero_le _))⟩
              clear qA
              clear hK KK
              (try clear hHeld)
              have hHeld := hHeld2
              clear hHeld2
              (try simp only [Act.put, xa, xb, xc, xd, xe, xf])
              refine wpAnyH_ready (rs := [8]) (by kernel_rfl) (by simp) ?_
              refine AllReadyH.cons rfl (fun KK hK => ?_) ?_
              · simp only [xa, xb, xc]
                go_simp
                refine (HSt.out _ O).mono ?_
                rintro e ZAC ⟨rfl, P9, q1⟩
                have OL := (O.any lo hi).trans q1
                replace fA := q1.heap fA (.inr (by have h1 := HtopV.out; omega))
                refine hK.out _ _ ?hS125 (fun hHeld2 => ?rest125)
                case hS125 => exact ⟨q1.cell hHeld.1 (.inr Hgv.out), q1.cell hHeld.2.1 (.inr Hgv.out), q1.cell hHeld.2.2.1 (.inl Hpl.out), q1.cell hHeld.2.2.2.1 (.inr (Nat.le_succ_of_le Hgv.out)), q1.cell hHeld.2.2.2.2 (.inr (Nat.le_succ_of_le Hgv.out))⟩
                clear q1 O
                clear hK KK
                (try clear hHeld)
                have hHeld := hHeld2
                clear hHeld2
                (try simp only [Act.put, xa, xb, xc, xd, xe, xf])
                refine wpAnyH_ready (rs := [10]) (by kernel_rfl) (by simp) ?_
                refine AllReadyH.cons rfl (fun KK hK => ?_) ?_
                · simp only [xa, xb, xc]
                  obtain ⟨y0, y1, y2, y3⟩ := flt_facts fA
                  go_simp
                  clear y0 y1 y2 y3
                  obtain ⟨ZACS, hY⟩ : ∃ V, ((ZAC.setCell ⟨gA, 0, none⟩ (.int .i64 e0)).setCell ⟨gA, 1, none⟩ (.int .i64 0)) = V := ⟨_, rfl⟩
                  have qS : Out gA (gA + 1) ZAC ZACS := by rw [← hY]; exact ((Out.refl _ _ _).setCell (p := ⟨gA, 0, none⟩) (.inl ⟨Nat.le_refl _, Nat.lt_succ_self _⟩) _).setCell (p := ⟨gA, 1, none⟩) (.inl ⟨Nat.le_refl _, Nat.lt_succ_self _⟩) _
                  replace OL : Out lo hi V4 ZACS := by rw [← hY]; exact (OL.setCell (p := ⟨gA, 0, none⟩) (.inr hgA) _).setCell (p := ⟨gA, 1, none⟩) (.inr hgA) _
                  have fB : ZACS.heap[gA]? = some (.cells #[.int .i64 e0, .int .i64 0] 33 (0, 0)) := by rw [← hY]; exact flt_set fA
                  have P10 : SpAt ZACS lo hi s 4 cap st1 := P9.kept qS (.inl (by have h1 := HtopV.out; omega)) (.inl (by have h1 := HtopV.out; have h2 := P9.1.glob; have h3 := P9.1.inn 0 (by omega); omega))
                  (try rw [hY])
                  clear hY fA P9
                  refine hK.out _ _ ?hS126 (fun hHeld2 => ?rest126)
                  case hS126 => exact ⟨qS.cell hHeld.1 (.inl (by have h1 := Hlow.out; omega)), qS.cell hHeld.2.1 (.inl (by have h1 := Hlow.out; omega)), qS.cell hHeld.2.2.1 (.inl (by have h1 := Hlow.out; omega)), qS.cell hHeld.2.2.2.1 (.inl (by have h1 := Hlow.out; omega)), qS.cell hHeld.2.2.2.2 (.inl (by have h1 := Hlow.out; omega))⟩
                  clear qS
                  clear hK KK
                  (try clear hHeld)
                  have hHeld := hHeld2
                  clear hHeld2
                  (try simp only [Act.put, xa, xb, xc, xd, xe, xf])
                  refine wpAnyH_done (by kernel_rfl) ?_ _
                  clear hHeld u0 u1 u2 u3 a0 b0 b1 b2 b3 HSt hgA
                  obtain ⟨r1, r2⟩ := st_right (i := A) (xk := 2) (xn := (q2 : Int)) HV4.out.1.2 HV4.out.2.1 HqO.out
                  rw [Hst.out.2] at r1 r2
                  have HV5 := hid_mk (HV4.out.make Hh.out (Nat.le_of_eq HLO.out) P10 r1 (fun b _ => by rw [r2]) OL)
                  have fV5 := hid_mk (OL.heap fV4.out (.inr Hgv.out))
                  have fW5 := hid_mk (OL.heap fW4.out (.inr (Nat.le_succ_of_le Hgv.out)))
                  have HO5 := hid_mk (HO4.out.then OL HWl.out)
                  have HD5 : Hid (∀ c, c < 64 * 4 → ZACS.cell? ⟨gd, c, none⟩ = some (.int .i64 (st.W c))) := fun c hc => OL.cell (HDw.out c hc) (.inr Hgd2.out)
                  have HqO1 : Hid (hasB (st1.O q) = true) := by rw [r2]; exact HqO.out
                  have fF5 := hid_mk fB
                  have y6 := HV5.out.2.2.1
                  clear r1 r2 P10 OL fB HV4 fV4 fW4 HO4 HDw
                  go_wp2_with fail
                  clear y6
                  have HD := hid_mk (dump_any HV5.out.1.1 (told9 st1))
                  refine HD.out.mono ?_
                  rintro e V6 ⟨gn, cn, gp2, cp2, vb2, rfl, hD, o6⟩
                  clear HD
                  have HD6 : Hid (∀ c, c < 64 * 4 → V6.cell? ⟨gd, c, none⟩ = some (.int .i64 (st.W c)) ∧ V6.cell? ⟨gn, c, none⟩ = some (.int .i64 (st1.W c))) := fun c hc => ⟨o6.cell (HD5.out c hc) (.inr (Nat.zero_le _)), hD.word.2.2 c hc⟩
                  have HV6 := hid_mk (HV5.out.quiet o6)
                  have fV6 := hid_mk (o6.heap fV5.out (.inr (Nat.zero_le _)))
                  have fW6 := hid_mk (o6.heap fW5.out (.inr (Nat.zero_le _)))
                  have fF6 := hid_mk (o6.heap fF5.out (.inr (Nat.zero_le _)))
                  have HO6 := hid_mk (HO5.out.trans o6)
                  clear hD o6 HD5 HV5 fV5 fW5 fF5 HO5
                  go_wp2_with fail
                  go_loopw [14] (fun x wr => ∃ c : Nat, c ≤ 256 ∧ x = .int .i64 c ∧ Out 0 0 V6 wr) (fun x _ => 256 - (intOf x).toNat)
                  case atStart => exact ⟨0, Nat.zero_le _, rfl, Out.refl _ _ _⟩
                  case round =>
                    obtain ⟨c, c9, rfl, o7⟩ := hrel
                    have c0 : (0 : Int) ≤ (c : Int) := by omega
                    by_cases hc : c < 256
                    · have hc' : (c : Int) < 256 := by omega
                      obtain ⟨d0', d1'⟩ := HD6.out c (by omega)
                      have d0 := o7.cell d0' (.inr (Nat.zero_le _))
                      have d1 := o7.cell d1' (.inr (Nat.zero_le _))
                      clear d0' d1'
                      go_wp2_with fail
                      refine wp_region_held_drew (S := fun w' => w'.cell? ⟨gd, c, none⟩ = some (.int .i64 (st.W c)) ∧ w'.cell? ⟨gn, c, none⟩ = some (.int .i64 (st1.W c)) ∧ Out 0 0 V6 w') (by kernel_rfl) ?hS168 (fun hHeld => ?rest168)
                      case hS168 => exact ⟨d0, d1, o7.drew⟩
                      refine tk 0 ?_
                      refine tk 1 ?_
                      refine tk 2 ?_
                      refine tk 3 ?_
                      refine tk 4 ?_
                      refine tk 5 ?_
                      refine tk 6 ?_
                      refine tk 7 ?_
                      refine tk 8 ?_
                      refine wpAnyH_done (by kernel_rfl) ?_ _
                      have hHeld7 := hHeld.2.2
                      obtain ⟨Z7, hZ7⟩ : ∃ Z, wr.drew = Z := ⟨_, rfl⟩
                      rw [hZ7] at hHeld hHeld7 ⊢
                      clear hZ7
                      by_cases hne : st.W c = st1.W c
                      · have o9 := hid_mk hHeld7
                        clear hHeld hHeld7 d0 d1 o7
                        rw [hne]
                        go_wp2
                        go_roundw
                        case rel => exact ⟨c + 1, by omega, by go_num, o9.out⟩
                        case measure => simp [intOf]; omega
                      have hne' : (st.W c == st1.W c) = false := by simpa using hne
                      have hwd0 := st_word (n := 4) (k := c) (st := st) (i := A) (xk := 2) (xn := (q2 : Int)) (by omega) HqO.out (by rw [Hst.out.2]; exact hne)
                      rw [Hst.out.1, Hst.out.2] at hwd0
                      obtain ⟨he0, hcA, hrg, hvx, hwd⟩ := hwd0
                      have fF7 := fF6.out
                      rw [he0] at fF7
                      have f0 := hHeld7.cell (flt_facts fF7).1 (.inr (Nat.zero_le _))
                      have v1 := hHeld7.cell (val_facts fV6.out).2.1 (.inr (Nat.zero_le _))
                      have w0 := hHeld7.cell (val_facts fW6.out).1 (.inr (Nat.zero_le _))
                      have w1 := hHeld7.cell (val_facts fW6.out).2.1 (.inr (Nat.zero_le _))
                      have a0 := hHeld7.cell (HO6.out.cell HPc.out.2.1 (.inr (Nat.zero_le _))) (.inr (Nat.zero_le _))
                      have dn := hHeld.2.1
                      have HRg : Hid (∀ X, Out 0 0 V6 X → Calls Tryz.prog 17 #[.pointer (some ⟨hb, 0, none⟩), .int .i64 (q : Int), .int .i64 A, .int .i64 (st1.W c)] X fun e w' => e = .returned (.bool true) ∧ Out 0 0 X w') := fun X o => by
                        have h := Right_any (HV6.out.1.quiet o).1 (arenaO HV6.out.1.2) (o.cell HV6.out.2.2.1 (.inr (Nat.zero_le _))) (q : Int) A (st1.W c)
                        rw [hrg] at h
                        exact h
                      have Hx3 := hid_mk hvx
                      have hwr : IntKind.i64.wrap ((q : Int) + A) = (q : Int) + A := by rw [← hcA, IntKind.wrap_i64]; omega
                      have m1 : -9223372036854775808 ≤ (q : Int) + A := by rw [← hcA]; omega
                      have m2 : (q : Int) + A ≤ 9223372036854775807 := by rw [← hcA]; omega
                      have e1 : ((c : Int) != (q : Int) + A) = false := by rw [← hcA]; simp
                      have e2 : (st1.W c != ((q2 : Int)) * 8 + (2) - 1) = false := by rw [hwd]; simp
                      clear hHeld d0 d1 hne hrg hvx hwd hcA fF7 he0 o7
                      go_wp2_with fail
                      refine wp_region_held_drew (S := fun w' => w'.cell? ⟨gA, 0, none⟩ = some (.int .i64 0) ∧ w'.cell? ⟨gv, 1, none⟩ = some (.int .i64 (q : Int)) ∧ w'.cell? ⟨pg, poff + k * 4 + 1, none⟩ = some (.int .i64 A) ∧ w'.cell? ⟨gn, c, none⟩ = some (.int .i64 (st1.W c)) ∧ w'.cell? ⟨gv + 1, 0, none⟩ = some (.int .i64 2) ∧ w'.cell? ⟨gv + 1, 1, none⟩ = some (.int .i64 (q2 : Int)) ∧ Out 0 0 V6 w') (by kernel_rfl) ?hS127 (fun hHeld => ?rest127)
                      case hS127 => exact ⟨f0, v1, a0, dn, w0, w1, hHeld7.drew⟩
                      refine tk 0 ?_
                      refine tk 1 ?_
                      refine tk 2 ?_
                      refine tk 3 ?_
                      refine tk 4 ?_
                      refine tk 5 ?_
                      refine tk 6 ?_
                      refine tk 7 ?_
                      refine tk 8 ?_
                      refine tk 9 ?_
                      refine tk 10 ?_
                      refine tk 11 ?_
                      refine tk 12 ?_
                      refine tk 13 ?_
                      refine tk 14 ?_
                      refine tk 15 ?_
                      refine tk 16 ?_
                      refine tk 17 ?_
                      refine tk 18 ?_
                      refine tk 19 ?_
                      refine tk 20 ?_
                      refine tk 21 ?_
                      refine tk 22 ?_
                      refine tk 23 ?_
                      refine tk 24 ?_
                      refine tk 25 ?_
                      refine tk 26 ?_
                      refine tk 27 ?_
                      refine wpAnyH_ready (rs := [28]) (by kernel_rfl) (by simp) ?_
                      refine AllReadyH.cons rfl (fun KK hK => ?_) AllReadyH.nil
                      simp only [xa, xb, xc]
                      go_simp
                      refine (HRg.out _ hHeld.2.2.2.2.2.2).mono ?_
                      rintro e X7 ⟨rfl, q7⟩
                      refine hK.out _ _ ?hS156 (fun hHeld2 => ?rest156)
                      case hS156 => exact ⟨q7.cell hHeld.1 (.inr (Nat.zero_le _)), q7.cell hHeld.2.1 (.inr (Nat.zero_le _)), q7.cell hHeld.2.2.1 (.inr (Nat.zero_le _)), q7.cell hHeld.2.2.2.1 (.inr (Nat.zero_le _)), q7.cell hHeld.2.2.2.2.1 (.inr (Nat.zero_le _)), q7.cell hHeld.2.2.2.2.2.1 (.inr (Nat.zero_le _)), hHeld.2.2.2.2.2.2.trans q7⟩
                      clear q7
                      clear hK KK
                      (try clear hHeld)
                      have hHeld := hHeld2
                      clear hHeld2
                      (try simp only [Act.put, xa, xb, xc, xd, xe, xf])
                      refine tk 29 ?_
                      refine tk 30 ?_
                      refine tk 31 ?_
                      refine tk 32 ?_
                      refine tk 33 ?_
                      refine tk 34 ?_
                      refine tk 35 ?_
                      refine tk 36 ?_
                      refine wpAnyH_ready (rs := [37]) (by kernel_rfl) (by simp) ?_
                      refine AllReadyH.cons rfl (fun KK hK => ?_) AllReadyH.nil
                      simp only [xa, xb, xc]
                      go_simp
                      refine (word_any Hx3.out _).mono ?_
                      rintro e X8 ⟨rfl, q7⟩
                      refine hK.out _ _ ?hS165 (fun hHeld2 => ?rest165)
                      case hS165 => exact ⟨q7.cell hHeld.1 (.inr (Nat.zero_le _)), q7.cell hHeld.2.1 (.inr (Nat.zero_le _)), q7.cell hHeld.2.2.1 (.inr (Nat.zero_le _)), q7.cell hHeld.2.2.2.1 (.inr (Nat.zero_le _)), q7.cell hHeld.2.2.2.2.1 (.inr (Nat.zero_le _)), q7.cell hHeld.2.2.2.2.2.1 (.inr (Nat.zero_le _)), hHeld.2.2.2.2.2.2.trans q7⟩
                      clear q7
                      clear hK KK
                      (try clear hHeld)
                      have hHeld := hHeld2
                      clear hHeld2
                      (try simp only [Act.put, xa, xb, xc, xd, xe, xf])
                      refine tk 38 ?_
                      refine tk 39 ?_
                      refine wpAnyH_done (by kernel_rfl) ?_ _
                      have o9 := hid_mk hHeld.2.2.2.2.2.2
                      clear hHeld
                      go_wp2
                      go_roundw
                      case rel => exact ⟨c + 1, by omega, by go_num, o9.out⟩
                      case measure => simp [intOf]; omega
                    · have hc' : (256 : Int) ≤ (c : Int) := by omega
                      have HVe := hid_mk (HV6.out.quiet o7)
                      go_wp2
                      go_roundw
                      case rel => exact ⟨k + 1, st1, by have := Hk.out.2; omega, by go_num, HVe.out⟩
                      case measure => have := Hk.out.2; simp [intOf]; omega
                · exact AllReadyH.nil
              · exact AllReadyH.nil
            · exact AllReadyH.nil
        · have h100' : (xk == 100) = false := by simpa using h100
          clear h100
          have HV := hid_mk (HM.out.quiet HoV.out)
          have y6 := HV.out.2.2.1
          have HOv := hid_mk (HOw.out.trans HoV.out)
          clear HM HW2 HAt
          go_wp2_with fail
          clear y6 c1 c2 d0 d2 d3 h100'
          obtain ⟨V3, hV3⟩ : ∃ V, (X3.alloc (.cells #[.int .i64 2, .int .i64 (q : Int)] 31)).alloc (.cells #[.int .i64 xk, .int .i64 xn] 31) = V := ⟨_, rfl⟩
          obtain ⟨gv, hgv⟩ : ∃ g, X3.heap.size = g := ⟨_, rfl⟩
          have HOv' := HOv.out
          rw [hV3] at HV fV fW HOv' ⊢
          rw [hgv] at fV fW Hgv
          (try rw [hgv])
          clear hV3 hgv HOv HoV HOw
          have HOv := hid_mk HOv'
          clear HOv'
          have HD := hid_mk (dump_any HV.out.1.1 (told9 st))
          refine HD.out.mono ?_
          rintro e V4 ⟨gd, cd, gp, cp, vb, rfl, hD, o4⟩
          clear HD
          have Hgd := hid_mk (And.intro hD.word.1 hD.word.2.1)
          have HDw := hid_mk hD.word.2.2
          have HV4 := hid_mk (HV.out.quiet o4)
          have fV4 := hid_mk (o4.heap fV.out (.inr (Nat.zero_le _)))
          have fW4 := hid_mk (o4.heap fW.out (.inr (Nat.zero_le _)))
          have HO4 := hid_mk (HOv.out.trans o4)
          have HtopV : Hid (hi ≤ V4.heap.size) := HV4.out.1.1.top
          have Hgd2 : Hid (hi ≤ gd) := Nat.le_trans HV.out.1.1.top Hgd.out.1
          clear hD o4 HV fV fW HOv
          obtain ⟨u0, u1, u2, u3⟩ := val_facts fV4.out
          obtain ⟨b0, b1, b2, b3⟩ := val_facts fW4.out
          have a0 := HO4.out.cell HPc.out.2.1 (.inr (Nat.zero_le _))
          have Hpl : Hid (pg < lo) := Nat.lt_of_lt_of_le Hpg.out HWl.out
          have Hlow : Hid (gv + 1 < V4.heap.size ∧ pg < V4.heap.size) := ⟨cell_lt b0, cell_lt a0⟩
          obtain ⟨e0, he0⟩ : ∃ e, stE 4 st q A (xk) (xn) = e := ⟨_, rfl⟩
          obtain ⟨st1, hst1⟩ : ∃ t, stS 4 st q A (xk) (xn) = t := ⟨_, rfl⟩
          have HSt := hid_mk (fun X (o : Out 0 0 V4 X) => Set_st (HV4.out.1.quiet o) HV4.out.2.1 (o.cell HV4.out.2.2.1 (.inr (Nat.zero_le _))) Hh.out HqO.out A (xk) (xn) he0 hst1)
          have Hst := hid_mk (And.intro he0 hst1)
          clear he0 hst1
          have hfw := field_w
          go_wp2_with fail
          refine wp_region_held_drew (S := fun w' => w'.cell? ⟨gv, 0, none⟩ = some (.int .i64 2) ∧ w'.cell? ⟨gv, 1, none⟩ = some (.int .i64 (q : Int)) ∧ w'.cell? ⟨pg, poff + k * 4 + 1, none⟩ = some (.int .i64 A) ∧ w'.cell? ⟨gv + 1, 0, none⟩ = some (.int .i64 xk) ∧ w'.cell? ⟨gv + 1, 1, none⟩ = some (.int .i64 xn)) (by kernel_rfl) ?hS178 (fun hHeld => ?rest178)
          case hS178 => exact ⟨u0, u1, a0, b0, b1⟩
          obtain ⟨Z, hZ⟩ : ∃ Z, V4.drew = Z := ⟨_, rfl⟩
          have O : Out 0 0 V4 Z := by rw [← hZ]; exact (Out.refl 0 0 _).drew
          rw [hZ] at hHeld ⊢
          clear hZ
          refine tk 0 ?_
          refine tk 1 ?_
          refine tk 2 ?_
          refine tk 3 ?_
          refine tk 4 ?_
          refine tk 5 ?_
          refine tk 6 ?_
          refine tk 7 ?_
          refine wpAnyH_ready (rs := [8, 9]) (by kernel_rfl) (by simp) ?_
          refine AllReadyH.cons rfl (fun KK hK => ?_) ?_
          · simp only [xa, xb, xc]
            go_simp
            refine (HSt.out _ O).mono ?_
            rintro e ZC ⟨rfl, P9, q1⟩
            have OL := (O.any lo hi).trans q1
            refine hK.out _ _ ?hS187 (fun hHeld2 => ?rest187)
            case hS187 => exact ⟨q1.cell hHeld.1 (.inr Hgv.out), q1.cell hHeld.2.1 (.inr Hgv.out), q1.cell hHeld.2.2.1 (.inl Hpl.out), q1.cell hHeld.2.2.2.1 (.inr (Nat.le_succ_of_le Hgv.out)), q1.cell hHeld.2.2.2.2 (.inr (Nat.le_succ_of_le Hgv.out))⟩
            clear q1 O
            clear hK KK
            (try clear hHeld)
            have hHeld := hHeld2
            clear hHeld2
            (try simp only [Act.put, xa, xb, xc, xd, xe, xf])
            refine wpAnyH_ready (rs := [9]) (by kernel_rfl) (by simp) ?_
            refine AllReadyH.cons rfl (fun KK hK => ?_) ?_
            · simp only [xa, xb, xc]
              go_simp
              obtain ⟨gA, hgf⟩ : ∃ g, ZC.heap.size = g := ⟨_, rfl⟩
              obtain ⟨ZCA, hY⟩ : ∃ V, ZC.alloc (.cells #[.int .i64 0, .int .i64 0] 33) = V := ⟨_, rfl⟩
              have qA : Out 0 0 ZC ZCA := by rw [← hY]; exact (Out.refl 0 0 _).alloc _
              have fA : ZCA.heap[gA]? = some (.cells #[.int .i64 0, .int .i64 0] 33 (0, 0)) := by rw [← hY, ← hgf]; exact heap_alloc_new _ _
              have hgA : V4.heap.size ≤ gA := by have := OL.size; omega
              (try rw [hY])
              (try rw [hgf])
              clear hY hgf
              replace P9 := P9.quiet qA
              replace OL := OL.trans (qA.any lo hi)
              refine hK.out _ _ ?hS188 (fun hHeld2 => ?rest188)
              case hS188 => exact ⟨qA.cell hHeld.1 (.inr (Nat.zero_le _)), qA.cell hHeld.2.1 (.inr (Nat.zero_le _)), qA.cell hHeld.2.2.1 (.inr (Nat.zero_le _)), qA.cell hHeld.2.2.2.1 (.inr (Nat.zero_le _)), qA.cell hHeld.2.2.2.2 (.inr (Nat.zero_le _))⟩
              clear qA
              clear hK KK
              (try clear hHeld)
              have hHeld := hHeld2
              clear hHeld2
              (try simp only [Act.put, xa, xb, xc, xd, xe, xf])
              refine wpAnyH_ready (rs := [10]) (by kernel_rfl) (by simp) ?_
              refine AllReadyH.cons rfl (fun KK hK => ?_) ?_
              · simp only [xa, xb, xc]
                obtain ⟨y0, y1, y2, y3⟩ := flt_facts fA
                go_simp
                clear y0 y1 y2 y3
                obtain ⟨ZCAS, hY⟩ : ∃ V, ((ZCA.setCell ⟨gA, 0, none⟩ (.int .i64 e0)).setCell ⟨gA, 1, none⟩ (.int .i64 0)) = V := ⟨_, rfl⟩
                have qS : Out gA (gA + 1) ZCA ZCAS := by rw [← hY]; exact ((Out.refl _ _ _).setCell (p := ⟨gA, 0, none⟩) (.inl ⟨Nat.le_refl _, Nat.lt_succ_self _⟩) _).setCell (p := ⟨gA, 1, none⟩) (.inl ⟨Nat.le_refl _, Nat.lt_succ_self _⟩) _
                replace OL : Out lo hi V4 ZCAS := by rw [← hY]; exact (OL.setCell (p := ⟨gA, 0, none⟩) (.inr hgA) _).setCell (p := ⟨gA, 1, none⟩) (.inr hgA) _
                have fB : ZCAS.heap[gA]? = some (.cells #[.int .i64 e0, .int .i64 0] 33 (0, 0)) := by rw [← hY]; exact flt_set fA
                have P10 : SpAt ZCAS lo hi s 4 cap st1 := P9.kept qS (.inl (by have h1 := HtopV.out; omega)) (.inl (by have h1 := HtopV.out; have h2 := P9.1.glob; have h3 := P9.1.inn 0 (by omega); omega))
                (try rw [hY])
                clear hY fA P9
                refine hK.out _ _ ?hS189 (fun hHeld2 => ?rest189)
                case hS189 => exact ⟨qS.cell hHeld.1 (.inl (by have h1 := Hlow.out; omega)), qS.cell hHeld.2.1 (.inl (by have h1 := Hlow.out; omega)), qS.cell hHeld.2.2.1 (.inl (by have h1 := Hlow.out; omega)), qS.cell hHeld.2.2.2.1 (.inl (by have h1 := Hlow.out; omega)), qS.cell hHeld.2.2.2.2 (.inl (by have h1 := Hlow.out; omega))⟩
                clear qS
                clear hK KK
                (try clear hHeld)
                have hHeld := hHeld2
                clear hHeld2
                (try simp only [Act.put, xa, xb, xc, xd, xe, xf])
                refine wpAnyH_done (by kernel_rfl) ?_ _
                clear hHeld u0 u1 u2 u3 a0 b0 b1 b2 b3 HSt hgA
                obtain ⟨r1, r2⟩ := st_right (i := A) (xk := xk) (xn := xn) HV4.out.1.2 HV4.out.2.1 HqO.out
                rw [Hst.out.2] at r1 r2
                have HV5 := hid_mk (HV4.out.make Hh.out (Nat.le_of_eq HLO.out) P10 r1 (fun b _ => by rw [r2]) OL)
                have fV5 := hid_mk (OL.heap fV4.out (.inr Hgv.out))
                have fW5 := hid_mk (OL.heap fW4.out (.inr (Nat.le_succ_of_le Hgv.out)))
                have HO5 := hid_mk (HO4.out.then OL HWl.out)
                have HD5 : Hid (∀ c, c < 64 * 4 → ZCAS.cell? ⟨gd, c, none⟩ = some (.int .i64 (st.W c))) := fun c hc => OL.cell (HDw.out c hc) (.inr Hgd2.out)
                have HqO1 : Hid (hasB (st1.O q) = true) := by rw [r2]; exact HqO.out
                have fF5 := hid_mk fB
                have y6 := HV5.out.2.2.1
                clear r1 r2 P10 OL fB HV4 fV4 fW4 HO4 HDw
                go_wp2_with fail
                clear y6
                have HD := hid_mk (dump_any HV5.out.1.1 (told9 st1))
                refine HD.out.mono ?_
                rintro e V6 ⟨gn, cn, gp2, cp2, vb2, rfl, hD, o6⟩
                clear HD
                have HD6 : Hid (∀ c, c < 64 * 4 → V6.cell? ⟨gd, c, none⟩ = some (.int .i64 (st.W c)) ∧ V6.cell? ⟨gn, c, none⟩ = some (.int .i64 (st1.W c))) := fun c hc => ⟨o6.cell (HD5.out c hc) (.inr (Nat.zero_le _)), hD.word.2.2 c hc⟩
                have HV6 := hid_mk (HV5.out.quiet o6)
                have fV6 := hid_mk (o6.heap fV5.out (.inr (Nat.zero_le _)))
                have fW6 := hid_mk (o6.heap fW5.out (.inr (Nat.zero_le _)))
                have fF6 := hid_mk (o6.heap fF5.out (.inr (Nat.zero_le _)))
                have HO6 := hid_mk (HO5.out.trans o6)
                clear hD o6 HD5 HV5 fV5 fW5 fF5 HO5
                go_wp2_with fail
                go_loopw [14] (fun x wr => ∃ c : Nat, c ≤ 256 ∧ x = .int .i64 c ∧ Out 0 0 V6 wr) (fun x _ => 256 - (intOf x).toNat)
                case atStart => exact ⟨0, Nat.zero_le _, rfl, Out.refl _ _ _⟩
                case round =>
                  obtain ⟨c, c9, rfl, o7⟩ := hrel
                  have c0 : (0 : Int) ≤ (c : Int) := by omega
                  by_cases hc : c < 256
                  · have hc' : (c : Int) < 256 := by omega
                    obtain ⟨d0', d1'⟩ := HD6.out c (by omega)
                    have d0 := o7.cell d0' (.inr (Nat.zero_le _))
                    have d1 := o7.cell d1' (.inr (Nat.zero_le _))
                    clear d0' d1'
                    go_wp2_with fail
                    refine wp_region_held_drew (S := fun w' => w'.cell? ⟨gd, c, none⟩ = some (.int .i64 (st.W c)) ∧ w'.cell? ⟨gn, c, none⟩ = some (.int .i64 (st1.W c)) ∧ Out 0 0 V6 w') (by kernel_rfl) ?hS231 (fun hHeld => ?rest231)
                    case hS231 => exact ⟨d0, d1, o7.drew⟩
                    refine tk 0 ?_
                    refine tk 1 ?_
                    refine tk 2 ?_
                    refine tk 3 ?_
                    refine tk 4 ?_
                    refine tk 5 ?_
                    refine tk 6 ?_
                    refine tk 7 ?_
                    refine tk 8 ?_
                    refine wpAnyH_done (by kernel_rfl) ?_ _
                    have hHeld7 := hHeld.2.2
                    obtain ⟨Z7, hZ7⟩ : ∃ Z, wr.drew = Z := ⟨_, rfl⟩
                    rw [hZ7] at hHeld hHeld7 ⊢
                    clear hZ7
                    by_cases hne : st.W c = st1.W c
                    · have o9 := hid_mk hHeld7
                      clear hHeld hHeld7 d0 d1 o7
                      rw [hne]
                      go_wp2
                      go_roundw
                      case rel => exact ⟨c + 1, by omega, by go_num, o9.out⟩
                      case measure => simp [intOf]; omega
                    have hne' : (st.W c == st1.W c) = false := by simpa using hne
                    have hwd0 := st_word (n := 4) (k := c) (st := st) (i := A) (xk := xk) (xn := xn) (by omega) HqO.out (by rw [Hst.out.2]; exact hne)
                    rw [Hst.out.1, Hst.out.2] at hwd0
                    obtain ⟨he0, hcA, hrg, hvx, hwd⟩ := hwd0
                    have fF7 := fF6.out
                    rw [he0] at fF7
                    have f0 := hHeld7.cell (flt_facts fF7).1 (.inr (Nat.zero_le _))
                    have v1 := hHeld7.cell (val_facts fV6.out).2.1 (.inr (Nat.zero_le _))
                    have w0 := hHeld7.cell (val_facts fW6.out).1 (.inr (Nat.zero_le _))
                    have w1 := hHeld7.cell (val_facts fW6.out).2.1 (.inr (Nat.zero_le _))
                    have a0 := hHeld7.cell (HO6.out.cell HPc.out.2.1 (.inr (Nat.zero_le _))) (.inr (Nat.zero_le _))
                    have dn := hHeld.2.1
                    have HRg : Hid (∀ X, Out 0 0 V6 X → Calls Tryz.prog 17 #[.pointer (some ⟨hb, 0, none⟩), .int .i64 (q : Int), .int .i64 A, .int .i64 (st1.W c)] X fun e w' => e = .returned (.bool true) ∧ Out 0 0 X w') := fun X o => by
                      have h := Right_any (HV6.out.1.quiet o).1 (arenaO HV6.out.1.2) (o.cell HV6.out.2.2.1 (.inr (Nat.zero_le _))) (q : Int) A (st1.W c)
                      rw [hrg] at h
                      exact h
                    have Hx3 := hid_mk hvx
                    have hwr : IntKind.i64.wrap ((q : Int) + A) = (q : Int) + A := by rw [← hcA, IntKind.wrap_i64]; omega
                    have m1 : -9223372036854775808 ≤ (q : Int) + A := by rw [← hcA]; omega
                    have m2 : (q : Int) + A ≤ 9223372036854775807 := by rw [← hcA]; omega
                    have e1 : ((c : Int) != (q : Int) + A) = false := by rw [← hcA]; simp
                    have e2 : (st1.W c != (xn) * 8 + (xk) - 1) = false := by rw [hwd]; simp
                    clear hHeld d0 d1 hne hrg hvx hwd hcA fF7 he0 o7
                    go_wp2_with fail
                    refine wp_region_held_drew (S := fun w' => w'.cell? ⟨gA, 0, none⟩ = some (.int .i64 0) ∧ w'.cell? ⟨gv, 1, none⟩ = some (.int .i64 (q : Int)) ∧ w'.cell? ⟨pg, poff + k * 4 + 1, none⟩ = some (.int .i64 A) ∧ w'.cell? ⟨gn, c, none⟩ = some (.int .i64 (st1.W c)) ∧ w'.cell? ⟨gv + 1, 0, none⟩ = some (.int .i64 xk) ∧ w'.cell? ⟨gv + 1, 1, none⟩ = some (.int .i64 xn) ∧ Out 0 0 V6 w') (by kernel_rfl) ?hS190 (fun hHeld => ?rest190)
                    case hS190 => exact ⟨f0, v1, a0, dn, w0, w1, hHeld7.drew⟩
                    refine tk 0 ?_
                    refine tk 1 ?_
                    refine tk 2 ?_
                    refine tk 3 ?_
                    refine tk 4 ?_
                    refine tk 5 ?_
                    refine tk 6 ?_
                    refine tk 7 ?_
                    refine tk 8 ?_
                    refine tk 9 ?_
                    refine tk 10 ?_
                    refine tk 11 ?_
                    refine tk 12 ?_
                    refine tk 13 ?_
                    refine tk 14 ?_
                    refine tk 15 ?_
                    refine tk 16 ?_
                    refine tk 17 ?_
                    refine tk 18 ?_
                    refine tk 19 ?_
                    refine tk 20 ?_
                    refine tk 21 ?_
                    refine tk 22 ?_
                    refine tk 23 ?_
                    refine tk 24 ?_
                    refine tk 25 ?_
                    refine tk 26 ?_
                    refine tk 27 ?_
                    refine wpAnyH_ready (rs := [28]) (by kernel_rfl) (by simp) ?_
                    refine AllReadyH.cons rfl (fun KK hK => ?_) AllReadyH.nil
                    simp only [xa, xb, xc]
                    go_simp
                    refine (HRg.out _ hHeld.2.2.2.2.2.2).mono ?_
                    rintro e X7 ⟨rfl, q7⟩
                    refine hK.out _ _ ?hS219 (fun hHeld2 => ?rest219)
                    case hS219 => exact ⟨q7.cell hHeld.1 (.inr (Nat.zero_le _)), q7.cell hHeld.2.1 (.inr (Nat.zero_le _)), q7.cell hHeld.2.2.1 (.inr (Nat.zero_le _)), q7.cell hHeld.2.2.2.1 (.inr (Nat.zero_le _)), q7.cell hHeld.2.2.2.2.1 (.inr (Nat.zero_le _)), q7.cell hHeld.2.2.2.2.2.1 (.inr (Nat.zero_le _)), hHeld.2.2.2.2.2.2.trans q7⟩
                    clear q7
                    clear hK KK
                    (try clear hHeld)
                    have hHeld := hHeld2
                    clear hHeld2
                    (try simp only [Act.put, xa, xb, xc, xd, xe, xf])
                    refine tk 29 ?_
                    refine tk 30 ?_
                    refine tk 31 ?_
                    refine tk 32 ?_
                    refine tk 33 ?_
                    refine tk 34 ?_
                    refine tk 35 ?_
                    refine tk 36 ?_
                    refine wpAnyH_ready (rs := [37]) (by kernel_rfl) (by simp) ?_
                    refine AllReadyH.cons rfl (fun KK hK => ?_) AllReadyH.nil
                    simp only [xa, xb, xc]
                    go_simp
                    refine (word_any Hx3.out _).mono ?_
                    rintro e X8 ⟨rfl, q7⟩
                    refine hK.out _ _ ?hS228 (fun hHeld2 => ?rest228)
                    case hS228 => exact ⟨q7.cell hHeld.1 (.inr (Nat.zero_le _)), q7.cell hHeld.2.1 (.inr (Nat.zero_le _)), q7.cell hHeld.2.2.1 (.inr (Nat.zero_le _)), q7.cell hHeld.2.2.2.1 (.inr (Nat.zero_le _)), q7.cell hHeld.2.2.2.2.1 (.inr (Nat.zero_le _)), q7.cell hHeld.2.2.2.2.2.1 (.inr (Nat.zero_le _)), hHeld.2.2.2.2.2.2.trans q7⟩
                    clear q7
                    clear hK KK
                    (try clear hHeld)
                    have hHeld := hHeld2
                    clear hHeld2
                    (try simp only [Act.put, xa, xb, xc, xd, xe, xf])
                    refine tk 38 ?_
                    refine tk 39 ?_
                    refine wpAnyH_done (by kernel_rfl) ?_ _
                    have o9 := hid_mk hHeld.2.2.2.2.2.2
                    clear hHeld
                    go_wp2
                    go_roundw
                    case rel => exact ⟨c + 1, by omega, by go_num, o9.out⟩
                    case measure => simp [intOf]; omega
                  · have hc' : (256 : Int) ≤ (c : Int) := by omega
                    have HVe := hid_mk (HV6.out.quiet o7)
                    go_wp2
                    go_roundw
                    case rel => exact ⟨k + 1, st1, by have := Hk.out.2; omega, by go_num, HVe.out⟩
                    case measure => have := Hk.out.2; simp [intOf]; omega
              · exact AllReadyH.nil
            · exact AllReadyH.nil
          · refine AllReadyH.cons rfl (fun KK hK => ?_) ?_
            · simp only [xa, xb, xc]
              go_simp
              obtain ⟨gA, hgf⟩ : ∃ g, Z.heap.size = g := ⟨_, rfl⟩
              obtain ⟨ZA, hY⟩ : ∃ V, Z.alloc (.cells #[.int .i64 0, .int .i64 0] 33) = V := ⟨_, rfl⟩
              have qA : Out 0 0 Z ZA := by rw [← hY]; exact (Out.refl 0 0 _).alloc _
              have fA : ZA.heap[gA]? = some (.cells #[.int .i64 0, .int .i64 0] 33 (0, 0)) := by rw [← hY, ← hgf]; exact heap_alloc_new _ _
              have hgA : V4.heap.size ≤ gA := by have := O.size; omega
              (try rw [hY])
              (try rw [hgf])
              clear hY hgf
              replace O := O.trans qA
              refine hK.out _ _ ?hS241 (fun hHeld2 => ?rest241)
              case hS241 => exact ⟨qA.cell hHeld.1 (.inr (Nat.zero_le _)), qA.cell hHeld.2.1 (.inr (Nat.zero_le _)), qA.cell hHeld.2.2.1 (.inr (Nat.zero_le _)), qA.cell hHeld.2.2.2.1 (.inr (Nat.zero_le _)), qA.cell hHeld.2.2.2.2 (.inr (Nat.zero_le _))⟩
              clear qA
              clear hK KK
              (try clear hHeld)
              have hHeld := hHeld2
              clear hHeld2
              (try simp only [Act.put, xa, xb, xc, xd, xe, xf])
              refine wpAnyH_ready (rs := [8]) (by kernel_rfl) (by simp) ?_
              refine AllReadyH.cons rfl (fun KK hK => ?_) ?_
              · simp only [xa, xb, xc]
                go_simp
                refine (HSt.out _ O).mono ?_
                rintro e ZAC ⟨rfl, P9, q1⟩
                have OL := (O.any lo hi).trans q1
                replace fA := q1.heap fA (.inr (by have h1 := HtopV.out; omega))
                refine hK.out _ _ ?hS242 (fun hHeld2 => ?rest242)
                case hS242 => exact ⟨q1.cell hHeld.1 (.inr Hgv.out), q1.cell hHeld.2.1 (.inr Hgv.out), q1.cell hHeld.2.2.1 (.inl Hpl.out), q1.cell hHeld.2.2.2.1 (.inr (Nat.le_succ_of_le Hgv.out)), q1.cell hHeld.2.2.2.2 (.inr (Nat.le_succ_of_le Hgv.out))⟩
                clear q1 O
                clear hK KK
                (try clear hHeld)
                have hHeld := hHeld2
                clear hHeld2
                (try simp only [Act.put, xa, xb, xc, xd, xe, xf])
                refine wpAnyH_ready (rs := [10]) (by kernel_rfl) (by simp) ?_
                refine AllReadyH.cons rfl (fun KK hK => ?_) ?_
                · simp only [xa, xb, xc]
                  obtain ⟨y0, y1, y2, y3⟩ := flt_facts fA
                  go_simp
                  clear y0 y1 y2 y3
                  obtain ⟨ZACS, hY⟩ : ∃ V, ((ZAC.setCell ⟨gA, 0, none⟩ (.int .i64 e0)).setCell ⟨gA, 1, none⟩ (.int .i64 0)) = V := ⟨_, rfl⟩
                  have qS : Out gA (gA + 1) ZAC ZACS := by rw [← hY]; exact ((Out.refl _ _ _).setCell (p := ⟨gA, 0, none⟩) (.inl ⟨Nat.le_refl _, Nat.lt_succ_self _⟩) _).setCell (p := ⟨gA, 1, none⟩) (.inl ⟨Nat.le_refl _, Nat.lt_succ_self _⟩) _
                  replace OL : Out lo hi V4 ZACS := by rw [← hY]; exact (OL.setCell (p := ⟨gA, 0, none⟩) (.inr hgA) _).setCell (p := ⟨gA, 1, none⟩) (.inr hgA) _
                  have fB : ZACS.heap[gA]? = some (.cells #[.int .i64 e0, .int .i64 0] 33 (0, 0)) := by rw [← hY]; exact flt_set fA
                  have P10 : SpAt ZACS lo hi s 4 cap st1 := P9.kept qS (.inl (by have h1 := HtopV.out; omega)) (.inl (by have h1 := HtopV.out; have h2 := P9.1.glob; have h3 := P9.1.inn 0 (by omega); omega))
                  (try rw [hY])
                  clear hY fA P9
                  refine hK.out _ _ ?hS243 (fun hHeld2 => ?rest243)
                  case hS243 => exact ⟨qS.cell hHeld.1 (.inl (by have h1 := Hlow.out; omega)), qS.cell hHeld.2.1 (.inl (by have h1 := Hlow.out; omega)), qS.cell hHeld.2.2.1 (.inl (by have h1 := Hlow.out; omega)), qS.cell hHeld.2.2.2.1 (.inl (by have h1 := Hlow.out; omega)), qS.cell hHeld.2.2.2.2 (.inl (by have h1 := Hlow.out; omega))⟩
                  clear qS
                  clear hK KK
                  (try clear hHeld)
                  have hHeld := hHeld2
                  clear hHeld2
                  (try simp only [Act.put, xa, xb, xc, xd, xe, xf])
                  refine wpAnyH_done (by kernel_rfl) ?_ _
                  clear hHeld u0 u1 u2 u3 a0 b0 b1 b2 b3 HSt hgA
                  obtain ⟨r1, r2⟩ := st_right (i := A) (xk := xk) (xn := xn) HV4.out.1.2 HV4.out.2.1 HqO.out
                  rw [Hst.out.2] at r1 r2
                  have HV5 := hid_mk (HV4.out.make Hh.out (Nat.le_of_eq HLO.out) P10 r1 (fun b _ => by rw [r2]) OL)
                  have fV5 := hid_mk (OL.heap fV4.out (.inr Hgv.out))
                  have fW5 := hid_mk (OL.heap fW4.out (.inr (Nat.le_succ_of_le Hgv.out)))
                  have HO5 := hid_mk (HO4.out.then OL HWl.out)
                  have HD5 : Hid (∀ c, c < 64 * 4 → ZACS.cell? ⟨gd, c, none⟩ = some (.int .i64 (st.W c))) := fun c hc => OL.cell (HDw.out c hc) (.inr Hgd2.out)
                  have HqO1 : Hid (hasB (st1.O q) = true) := by rw [r2]; exact HqO.out
                  have fF5 := hid_mk fB
                  have y6 := HV5.out.2.2.1
                  clear r1 r2 P10 OL fB HV4 fV4 fW4 HO4 HDw
                  go_wp2_with fail
                  clear y6
                  have HD := hid_mk (dump_any HV5.out.1.1 (told9 st1))
                  refine HD.out.mono ?_
                  rintro e V6 ⟨gn, cn, gp2, cp2, vb2, rfl, hD, o6⟩
                  clear HD
                  have HD6 : Hid (∀ c, c < 64 * 4 → V6.cell? ⟨gd, c, none⟩ = some (.int .i64 (st.W c)) ∧ V6.cell? ⟨gn, c, none⟩ = some (.int .i64 (st1.W c))) := fun c hc => ⟨o6.cell (HD5.out c hc) (.inr (Nat.zero_le _)), hD.word.2.2 c hc⟩
                  have HV6 := hid_mk (HV5.out.quiet o6)
                  have fV6 := hid_mk (o6.heap fV5.out (.inr (Nat.zero_le _)))
                  have fW6 := hid_mk (o6.heap fW5.out (.inr (Nat.zero_le _)))
                  have fF6 := hid_mk (o6.heap fF5.out (.inr (Nat.zero_le _)))
                  have HO6 := hid_mk (HO5.out.trans o6)
                  clear hD o6 HD5 HV5 fV5 fW5 fF5 HO5
                  go_wp2_with fail
                  go_loopw [14] (fun x wr => ∃ c : Nat, c ≤ 256 ∧ x = .int .i64 c ∧ Out 0 0 V6 wr) (fun x _ => 256 - (intOf x).toNat)
                  case atStart => exact ⟨0, Nat.zero_le _, rfl, Out.refl _ _ _⟩
                  case round =>
                    obtain ⟨c, c9, rfl, o7⟩ := hrel
                    have c0 : (0 : Int) ≤ (c : Int) := by omega
                    by_cases hc : c < 256
                    · have hc' : (c : Int) < 256 := by omega
                      obtain ⟨d0', d1'⟩ := HD6.out c (by omega)
                      have d0 := o7.cell d0' (.inr (Nat.zero_le _))
                      have d1 := o7.cell d1' (.inr (Nat.zero_le _))
                      clear d0' d1'
                      go_wp2_with fail
                      refine wp_region_held_drew (S := fun w' => w'.cell? ⟨gd, c, none⟩ = some (.int .i64 (st.W c)) ∧ w'.cell? ⟨gn, c, none⟩ = some (.int .i64 (st1.W c)) ∧ Out 0 0 V6 w') (by kernel_rfl) ?hS285 (fun hHeld => ?rest285)
                      case hS285 => exact ⟨d0, d1, o7.drew⟩
                      refine tk 0 ?_
                      refine tk 1 ?_
                      refine tk 2 ?_
                      refine tk 3 ?_
                      refine tk 4 ?_
                      refine tk 5 ?_
                      refine tk 6 ?_
                      refine tk 7 ?_
                      refine tk 8 ?_
                      refine wpAnyH_done (by kernel_rfl) ?_ _
                      have hHeld7 := hHeld.2.2
                      obtain ⟨Z7, hZ7⟩ : ∃ Z, wr.drew = Z := ⟨_, rfl⟩
                      rw [hZ7] at hHeld hHeld7 ⊢
                      clear hZ7
                      by_cases hne : st.W c = st1.W c
                      · have o9 := hid_mk hHeld7
                        clear hHeld hHeld7 d0 d1 o7
                        rw [hne]
                        go_wp2
                        go_roundw
                        case rel => exact ⟨c + 1, by omega, by go_num, o9.out⟩
                        case measure => simp [intOf]; omega
                      have hne' : (st.W c == st1.W c) = false := by simpa using hne
                      have hwd0 := st_word (n := 4) (k := c) (st := st) (i := A) (xk := xk) (xn := xn) (by omega) HqO.out (by rw [Hst.out.2]; exact hne)
                      rw [Hst.out.1, Hst.out.2] at hwd0
                      obtain ⟨he0, hcA, hrg, hvx, hwd⟩ := hwd0
                      have fF7 := fF6.out
                      rw [he0] at fF7
                      have f0 := hHeld7.cell (flt_facts fF7).1 (.inr (Nat.zero_le _))
                      have v1 := hHeld7.cell (val_facts fV6.out).2.1 (.inr (Nat.zero_le _))
                      have w0 := hHeld7.cell (val_facts fW6.out).1 (.inr (Nat.zero_le _))
                      have w1 := hHeld7.cell (val_facts fW6.out).2.1 (.inr (Nat.zero_le _))
                      have a0 := hHeld7.cell (HO6.out.cell HPc.out.2.1 (.inr (Nat.zero_le _))) (.inr (Nat.zero_le _))
                      have dn := hHeld.2.1
                      have HRg : Hid (∀ X, Out 0 0 V6 X → Calls Tryz.prog 17 #[.pointer (some ⟨hb, 0, none⟩), .int .i64 (q : Int), .int .i64 A, .int .i64 (st1.W c)] X fun e w' => e = .returned (.bool true) ∧ Out 0 0 X w') := fun X o => by
                        have h := Right_any (HV6.out.1.quiet o).1 (arenaO HV6.out.1.2) (o.cell HV6.out.2.2.1 (.inr (Nat.zero_le _))) (q : Int) A (st1.W c)
                        rw [hrg] at h
                        exact h
                      have Hx3 := hid_mk hvx
                      have hwr : IntKind.i64.wrap ((q : Int) + A) = (q : Int) + A := by rw [← hcA, IntKind.wrap_i64]; omega
                      have m1 : -9223372036854775808 ≤ (q : Int) + A := by rw [← hcA]; omega
                      have m2 : (q : Int) + A ≤ 9223372036854775807 := by rw [← hcA]; omega
                      have e1 : ((c : Int) != (q : Int) + A) = false := by rw [← hcA]; simp
                      have e2 : (st1.W c != (xn) * 8 + (xk) - 1) = false := by rw [hwd]; simp
                      clear hHeld d0 d1 hne hrg hvx hwd hcA fF7 he0 o7
                      go_wp2_with fail
                      refine wp_region_held_drew (S := fun w' => w'.cell? ⟨gA, 0, none⟩ = some (.int .i64 0) ∧ w'.cell? ⟨gv, 1, none⟩ = some (.int .i64 (q : Int)) ∧ w'.cell? ⟨pg, poff + k * 4 + 1, none⟩ = some (.int .i64 A) ∧ w'.cell? ⟨gn, c, none⟩ = some (.int .i64 (st1.W c)) ∧ w'.cell? ⟨gv + 1, 0, none⟩ = some (.int .i64 xk) ∧ w'.cell? ⟨gv + 1, 1, none⟩ = some (.int .i64 xn) ∧ Out 0 0 V6 w') (by kernel_rfl) ?hS244 (fun hHeld => ?rest244)
                      case hS244 => exact ⟨f0, v1, a0, dn, w0, w1, hHeld7.drew⟩
                      refine tk 0 ?_
                      refine tk 1 ?_
                      refine tk 2 ?_
                      refine tk 3 ?_
                      refine tk 4 ?_
                      refine tk 5 ?_
                      refine tk 6 ?_
                      refine tk 7 ?_
                      refine tk 8 ?_
                      refine tk 9 ?_
                      refine tk 10 ?_
                      refine tk 11 ?_
                      refine tk 12 ?_
                      refine tk 13 ?_
                      refine tk 14 ?_
                      refine tk 15 ?_
                      refine tk 16 ?_
                      refine tk 17 ?_
                      refine tk 18 ?_
                      refine tk 19 ?_
                      refine tk 20 ?_
                      refine tk 21 ?_
                      refine tk 22 ?_
                      refine tk 23 ?_
                      refine tk 24 ?_
                      refine tk 25 ?_
                      refine tk 26 ?_
                      refine tk 27 ?_
                      refine wpAnyH_ready (rs := [28]) (by kernel_rfl) (by simp) ?_
                      refine AllReadyH.cons rfl (fun KK hK => ?_) AllReadyH.nil
                      simp only [xa, xb, xc]
                      go_simp
                      refine (HRg.out _ hHeld.2.2.2.2.2.2).mono ?_
                      rintro e X7 ⟨rfl, q7⟩
                      refine hK.out _ _ ?hS273 (fun hHeld2 => ?rest273)
                      case hS273 => exact ⟨q7.cell hHeld.1 (.inr (Nat.zero_le _)), q7.cell hHeld.2.1 (.inr (Nat.zero_le _)), q7.cell hHeld.2.2.1 (.inr (Nat.zero_le _)), q7.cell hHeld.2.2.2.1 (.inr (Nat.zero_le _)), q7.cell hHeld.2.2.2.2.1 (.inr (Nat.zero_le _)), q7.cell hHeld.2.2.2.2.2.1 (.inr (Nat.zero_le _)), hHeld.2.2.2.2.2.2.trans q7⟩
                      clear q7
                      clear hK KK
                      (try clear hHeld)
                      have hHeld := hHeld2
                      clear hHeld2
                      (try simp only [Act.put, xa, xb, xc, xd, xe, xf])
                      refine tk 29 ?_
                      refine tk 30 ?_
                      refine tk 31 ?_
                      refine tk 32 ?_
                      refine tk 33 ?_
                      refine tk 34 ?_
                      refine tk 35 ?_
                      refine tk 36 ?_
                      refine wpAnyH_ready (rs := [37]) (by kernel_rfl) (by simp) ?_
                      refine AllReadyH.cons rfl (fun KK hK => ?_) AllReadyH.nil
                      simp only [xa, xb, xc]
                      go_simp
                      refine (word_any Hx3.out _).mono ?_
                      rintro e X8 ⟨rfl, q7⟩
                      refine hK.out _ _ ?hS282 (fun hHeld2 => ?rest282)
                      case hS282 => exact ⟨q7.cell hHeld.1 (.inr (Nat.zero_le _)), q7.cell hHeld.2.1 (.inr (Nat.zero_le _)), q7.cell hHeld.2.2.1 (.inr (Nat.zero_le _)), q7.cell hHeld.2.2.2.1 (.inr (Nat.zero_le _)), q7.cell hHeld.2.2.2.2.1 (.inr (Nat.zero_le _)), q7.cell hHeld.2.2.2.2.2.1 (.inr (Nat.zero_le _)), hHeld.2.2.2.2.2.2.trans q7⟩
                      clear q7
                      clear hK KK
                      (try clear hHeld)
                      have hHeld := hHeld2
                      clear hHeld2
                      (try simp only [Act.put, xa, xb, xc, xd, xe, xf])
                      refine tk 38 ?_
                      refine tk 39 ?_
                      refine wpAnyH_done (by kernel_rfl) ?_ _
                      have o9 := hid_mk hHeld.2.2.2.2.2.2
                      clear hHeld
                      go_wp2
                      go_roundw
                      case rel => exact ⟨c + 1, by omega, by go_num, o9.out⟩
                      case measure => simp [intOf]; omega
                    · have hc' : (256 : Int) ≤ (c : Int) := by omega
                      have HVe := hid_mk (HV6.out.quiet o7)
                      go_wp2
                      go_roundw
                      case rel => exact ⟨k + 1, st1, by have := Hk.out.2; omega, by go_num, HVe.out⟩
                      case measure => have := Hk.out.2; simp [intOf]; omega
                · exact AllReadyH.nil
              · exact AllReadyH.nil
            · exact AllReadyH.nil
      · have g2 : (60 : Int) ≤ (k : Int) := by omega
        go_wp2
        go_ret
        exact ⟨rfl, HO1.out.trans HM.out.2.2.2.2.2⟩
    · have g1 : (os.length : Int) ≤ (k : Int) := by omega
      go_wp2
      go_ret
      exact ⟨rfl, HO1.out.trans HM.out.2.2.2.2.2⟩
end Go.Proofs.YtcpignkjlnjjmaaGreatDoor
