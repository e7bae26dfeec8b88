import Derived.Test.YtcpignkjlnjjmaaDoorNk30
namespace Go.Proofs.YtcpignkjlnjjmaaDoor
open Go.RowKit
set_option linter.unusedVariables false
set_option linter.unusedSimpArgs false

set_option maxRecDepth 100000 in
set_option maxHeartbeats 8000000 in
theorem keptO_any {w : World} (hT : Tab w) {p : Option Addr} {L : List Int} {cap0 : Nat} (hL : SlI w w.heap.size p L) {pp : Option Addr} {os : List (Int × Int × Int × Int)} {cap1 : Nat} (hP : PutsAt w w.heap.size pp os) :
    Calls Tryd.prog 3 #[.slice p L.length cap0, .slice pp os.length cap1] w fun e w' => e = .returned (.bool true) ∧ Out 0 0 w w' := by
  have HT := hid_mk hT
  have HL := hid_mk hL
  have HP := hid_mk hP
  clear hT hL hP
  go_enter Tryd.func3, Tryd.ntmps3
  go_wp2_with fail
  refine (alive_any HT.out).mono ?_
  rintro e X1 ⟨rfl, o1⟩
  have HO1 := hid_mk o1
  have HMd := hid_mk (made_sz (cap0 := cap0) (HT.out.quiet o1) ((HL.out.kept o1 (.inr rfl)).mono o1.size))
  clear o1 HT HL
  go_wp2_with fail
  refine HMd.out.mono ?_
  rintro e X2 ⟨hi, s, cap, hb, st0, l, lv, rfl, hM, hh, h12, hz9, hnd⟩
  clear HMd
  obtain ⟨lo, hlo⟩ : ∃ lo, X1.heap.size = lo := ⟨_, rfl⟩
  have HLO := hid_mk hlo
  have HWl : Hid (w.heap.size ≤ lo) := by rw [← hlo]; exact HO1.out.size
  rw [hlo] at hM
  clear hlo
  obtain ⟨po, pc, rfl, hat0⟩ := hM.2.2.2.1.at
  by_cases h0 : l.length = 0
  · have h0' : (l.length : Int) = 0 := by omega
    have HE := hid_mk (HO1.out.trans hM.2.2.2.2.2)
    clear hM hh h12 h0 hat0
    go_wp2
    go_ret
    exact ⟨rfl, HE.out⟩
  obtain ⟨q0, hq0⟩ : ∃ q, l[0]? = some q := ⟨_, List.getElem?_eq_getElem (by omega)⟩
  obtain ⟨gl, rfl, _, _, _⟩ := hat0 0 q0 hq0
  have hcon := hM.con h0 hh (Nat.le_of_eq HLO.out) (gH := X2.heap.size) rfl
  obtain ⟨cur, cu1, cu2, hmk⟩ := make_has l.length (by omega)
  have hk0 := KSt.start (gH := X2.heap.size) hM hz9 ((Out.refl 0 0 X2).alloc (.cells cur 37)) (by simp)
  have hh0 : HasTo (X2.alloc (.cells cur 37)) X2.heap.size st0 l 0 1 := (HasTo.new (heap_alloc_new _ _) cu1 cu2).first
  have Hnd := hid_mk hnd
  have Hl := hid_mk (And.intro h0 h12)
  have l1 : (1 : Int) ≤ (l.length : Int) := by omega
  have l2 : ((l.length : Int) == 0) = false := by rw [beq_eq_false_iff_ne]; omega
  have HC := hid_mk hcon
  have HK0 := hid_mk hk0
  have HH0 := hid_mk hh0
  clear hM hh h0 h12 hz9 hnd hat0 hq0 hcon hk0 hh0 cu1 cu2
  go_wp2_with fail
  obtain ⟨V0, hV0⟩ : ∃ V, X2.alloc (.cells cur 37) = V := ⟨_, rfl⟩
  obtain ⟨gH, hgH⟩ : ∃ g, X2.heap.size = g := ⟨_, rfl⟩
  rw [hV0, hgH] at HK0 HH0
  rw [hgH] at HC
  (try rw [hV0])
  (try rw [hgH])
  clear hV0 hgH hmk
  go_loopw [9] (fun x wr => ∃ i : Nat, i ≤ l.length ∧ x = .int .i64 i ∧ KSt X1 lo hi s cap hb gl gH wr st0 l ∧ HasTo wr gH st0 l i 1) (fun x _ => l.length - (intOf x).toNat)
  case atStart => exact ⟨0, Nat.zero_le _, rfl, HK0.out, HH0.out⟩
  case round =>
    obtain ⟨i, i1, rfl, hk, hha⟩ := hrel
    have HK := hid_mk hk
    have HH := hid_mk hha
    have i0 : (0 : Int) ≤ (i : Int) := by omega
    clear HK0 HH0 hk hha
    by_cases hgo : i < l.length
    · have g1 : (i : Int) < (l.length : Int) := by omega
      obtain ⟨q, hq⟩ : ∃ q, l[i]? = some q := ⟨_, List.getElem?_eq_getElem hgo⟩
      have Hi := hid_mk (And.intro hgo hq)
      have i12 : (i : Int) < 12 := by have := Hl.out.2; omega
      clear hgo hq
      go_wp2_with fail
      go_loopw [10] (fun x wr => ∃ a : Nat, 1 ≤ a ∧ a ≤ 9 ∧ x = .int .i64 a ∧ KSt X1 lo hi s cap hb gl gH wr st0 l ∧ HasTo wr gH st0 l i a) (fun x _ => 9 - (intOf x).toNat)
      case atStart => exact ⟨1, Nat.le_refl _, by omega, rfl, HK.out, HH.out⟩
      case round =>
        obtain ⟨a, a1, a2, rfl, hk, hha⟩ := hrel
        have HK2 := hid_mk hk
        have HH2 := hid_mk hha
        have a0 : (0 : Int) ≤ (a : Int) := by omega
        clear HK HH hk hha
        by_cases h9 : a < 9
        · have g2 : (a : Int) < 9 := by omega
          have g3 : (a : Int) < 10 := by omega
          obtain ⟨c1, c2⟩ := HK2.out.2.2.2.1 i q Hi.out.2
          obtain ⟨⟨y1, y2, y3, y4⟩, hy⟩ : ∃ y, gtQ 4 st0 q (a : Int) = y := ⟨_, rfl⟩
          have HG := hid_mk (fun X (o : KSt X1 lo hi s cap hb gl gH X st0 l) => Get_gt o.1 o.2.2.1 (o.2.2.2.2.1 q (List.mem_of_getElem? Hi.out.2)).1 (a : Int) hy)
          have Hy := hid_mk hy
          clear hy
          go_wp2_with fail
          refine wp_region_held_drew (S := fun w' => w'.cell? ⟨gl, i * 2, none⟩ = some (.int .i64 2) ∧ w'.cell? ⟨gl, i * 2 + 1, none⟩ = some (.int .i64 (q : Int)) ∧ KSt X1 lo hi s cap hb gl gH w' st0 l ∧ HasTo w' gH st0 l i a) (by kernel_rfl) ?hS61 (fun hHeld => ?rest61)
          case hS61 => exact ⟨c1, c2, HK2.out.quiet (Out.refl 0 0 _).drew, HH2.out.kept (Out.refl 0 0 _).drew (.inr (Nat.zero_le _))⟩
          refine tk 0 ?_
          refine tk 1 ?_
          refine tk 2 ?_
          refine tk 3 ?_
          refine tk 4 ?_
          refine tk 5 ?_
          refine tk 6 ?_
          refine tk 7 ?_
          refine tk 8 ?_
          refine tk 13 ?_
          refine wpAnyH_ready (rs := [9]) (by kernel_rfl) (by simp) ?_
          refine AllReadyH.cons rfl (fun KK hK => ?_) AllReadyH.nil
          simp only [xa, xb, xc]
          go_simp
          refine (HG.out _ hHeld.2.2.1).mono ?_
          rintro e X7 ⟨rfl, q7⟩
          refine hK.out _ _ ?hS72 (fun hHeld2 => ?rest72)
          case hS72 => exact ⟨q7.cell hHeld.1 (.inr (Nat.zero_le _)), q7.cell hHeld.2.1 (.inr (Nat.zero_le _)), hHeld.2.2.1.quiet q7, hHeld.2.2.2.kept q7 (.inr (Nat.zero_le _))⟩
          clear q7
          clear hK KK
          (try clear hHeld)
          have hHeld := hHeld2
          clear hHeld2
          (try simp only [Act.put, xa, xb, xc, xd, xe, xf])
          refine tk 10 ?_
          refine tk 11 ?_
          refine tk 12 ?_
          refine tk 14 ?_
          refine wpAnyH_ready (rs := [15]) (by kernel_rfl) (by simp) ?_
          refine AllReadyH.cons rfl (fun KK hK => ?_) AllReadyH.nil
          simp only [xa, xb, xc]
          obtain ⟨⟨v1, c3⟩, ⟨v2, c4⟩, c5, c6⟩ := hHeld.2.2.2.cells (j := i) (a := a) Hi.out.1 (by omega)
          go_simp
          clear c3 c4 c5 c6
          have HN := hid_mk (hHeld.2.2.2.step Hi.out.2 (by omega) Hy.out)
          obtain ⟨X8, hX8⟩ : ∃ V, ((X7.setCell ⟨gH, i * 20 + a * 2, none⟩ (.int .i64 y1)).setCell ⟨gH, i * 20 + a * 2 + 1, none⟩ (.int .i64 y2)) = V := ⟨_, rfl⟩
          have q8 : Out gH (gH + 1) X7 X8 := by rw [← hX8]; exact ((Out.refl _ _ _).setCell (p := ⟨gH, i * 20 + a * 2, none⟩) (.inl ⟨Nat.le_refl _, Nat.lt_succ_self _⟩) _).setCell (p := ⟨gH, i * 20 + a * 2 + 1, none⟩) (.inl ⟨Nat.le_refl _, Nat.lt_succ_self _⟩) _
          rw [hX8] at HN ⊢
          clear hX8
          have HKn := hid_mk (hHeld.2.2.1.row HC.out q8)
          refine hK.out _ _ ?hS77 (fun hHeld2 => ?rest77)
          case hS77 => exact ⟨q8.cell hHeld.1 (.inl HC.out.2.2.2.2), q8.cell hHeld.2.1 (.inl HC.out.2.2.2.2), HKn.out, HN.out.less⟩
          clear q8
          clear hK KK
          (try clear hHeld)
          have hHeld := hHeld2
          clear hHeld2
          (try simp only [Act.put, xa, xb, xc, xd, xe, xf])
          refine wpAnyH_done (by kernel_rfl) ?_ _
          clear hHeld
          go_wp2
          go_roundw
          case rel => exact ⟨a + 1, by omega, by omega, by go_num, HKn.out, HN.out⟩
          case measure => simp [intOf]; omega
        · have g2 : (9 : Int) ≤ (a : Int) := by omega
          have e9 : a = 9 := by omega
          subst e9
          clear a0 a1 a2 h9
          go_wp2
          go_roundw
          case rel => exact ⟨i + 1, Hi.out.1, by go_num, HK2.out, HH2.out.next⟩
          case measure => have := Hi.out.1; simp [intOf]; omega
    · have e9 : i = l.length := by omega
      subst e9
      have g1 : (l.length : Int) ≤ (l.length : Int) := by omega
      clear i1 hgo
      go_wp2_with fail
      go_loopw [11] (fun x wr => ∃ (k : Nat) (st : Sp), k ≤ 60 ∧ x = .int .i64 k ∧ KSt X1 lo hi s cap hb gl gH wr st l ∧ HasTo wr gH st l l.length 1) (fun x _ => 60 - (intOf x).toNat)
      case atStart => exact ⟨0, st0, Nat.zero_le _, rfl, HK.out, HH.out⟩
      case round =>
        obtain ⟨k, st, k1, rfl, hk, hha⟩ := hrel
        have HK1 := hid_mk hk
        have HH1 := hid_mk hha
        have k0 : (0 : Int) ≤ (k : Int) := by omega
        clear HK HH hk hha
        by_cases hgo : k < os.length
        · have g2 : (k : Int) < (os.length : Int) := by omega
          by_cases h60 : k < 60
          · have g3 : (k : Int) < 60 := by omega
            have Hk := hid_mk (And.intro hgo h60)
            obtain ⟨⟨of_, A, xk, xn⟩, hput⟩ : ∃ o, os[k]? = some o := ⟨_, List.getElem?_eq_getElem hgo⟩
            obtain ⟨hb1, hb2, hb3⟩ := HP.out.1 _ (List.mem_of_getElem? hput)
            rcases HP.out.2 with e | ⟨pg, poff, rfl, hpg, hpc⟩
            · rw [e] at hgo; simp at hgo
            obtain ⟨p0, p1, p2, p3⟩ := hpc k _ hput
            dsimp only at hb1 hb2 hb3 p0 p1 p2 p3
            have HPc := hid_mk (And.intro p0 (And.intro p1 (And.intro p2 p3)))
            have Hpg : Hid (pg < w.heap.size) := hpg
            have oW := HO1.out.trans HK1.out.2.2.2.2.2.1
            have c0 := oW.cell p0 (.inr (Nat.zero_le _))
            have d2 := oW.cell p2 (.inr (Nat.zero_le _))
            have d3 := oW.cell p3 (.inr (Nat.zero_le _))
            have HW := hid_mk (fun w => within_any of_ l.length (by have := Hl.out; omega) (by have := Hl.out; omega) hb1.1 hb1.2 w)
            have HW2 := hid_mk (fun w => within_any xn l.length (by have := Hl.out; omega) (by have := Hl.out; omega) hb3.1 hb3.2 w)
            have HA := hid_mk hb2
            have HOw := hid_mk oW
            clear hgo h60 hput hpg hpc p0 p1 p2 p3 hb1 hb2 hb3 oW HP k1
            go_wp2_with fail
            refine (HW.out _).mono ?_
            rintro e X3 ⟨j, hj, rfl, rfl⟩
            clear HW c0
            obtain ⟨q, hq⟩ : ∃ q, l[j]? = some q := ⟨_, List.getElem?_eq_getElem hj⟩
            have Hq := hid_mk (And.intro hj hq)
            have HqO := hid_mk (HK1.out.2.2.2.2.1 q (List.mem_of_getElem? hq))
            have j1 : (j : Int) < (l.length : Int) := by omega
            have j0 : (0 : Int) ≤ (j : Int) := by omega
            have fW := hid_mk (heap_alloc_new X3 (.cells #[.int .i64 xk, .int .i64 xn] 31))
            have HoV := hid_mk ((Out.refl 0 0 X3).alloc (.cells #[.int .i64 xk, .int .i64 xn] 31))
            clear hq hj
            rename_i KA hKA KD hKD
            have HKA0 := hid_mk hKA
            clear hKA
            go_wp2_with fail
            refine HKA0.out _ _ ?_
            clear HKA0
            apply wp_seq_k
            intro KB hKB
            have HKB0 := hid_mk hKB
            clear hKB
            go_wp2_with fail
            refine HKB0.out _ _ ?_
            clear HKB0 d2 d3
            apply wp_seq_k
            intro KC hKC
            have HKC : Hid (∀ (W : World) (gw : Nat) (yk yn : Int), KSt X1 lo hi s cap hb gl gH W st l → HasTo W gH st l l.length 1 → W.heap[gw]? = some (.cells #[.int .i64 yk, .int .i64 yn] 31 (0, 0)) → gH < gw → Out 0 0 w W → ∀ (v63 v64 v65 v66 v67 v68 v69 v70 v71 v72 v73 v74 v75 v76 v77 v78 v79 v80 v81 v82 v83 v84 v85 v86 v87 v88 v89 v90 v91 v92 v93 v94 v95 v96 v97 v98 v99 v100 v101 v102 v103 v104 v105 v106 v107 v108 v109 v110 v111 v112 v113 v114 v115 v116 v117 v118 v119 v120 v121 v122 v123 v124 v125 v126 v127 v128 v129 v130 v131 v132 v133 v134 v135 v136 v137 v138 v139 v140 v141 v142 v143 v144 v145 v146 v147 v148 v149 v150 v151 v152 v153 v154 v155 v156 v157 v158 v159 v160 v161 v162 v163 v164 v165 v166 v167 v168 v169 v170 v171 v172 : Value), KC { tmps := #[.slice p L.length cap0, .slice (some ⟨pg, poff, none⟩) os.length cap1, undef, undef, u4, .pointer (some ⟨hb, 0, none⟩), .slice (some ⟨gl, 0, none⟩) l.length pc, .bool true, .slice (some ⟨gH, 0, none⟩) l.length l.length, .int .i64 (l.length : Int), u10, .int .i64 (k : Int), .int .i64 (j : Int), .pointer (some ⟨gw, 0, none⟩), u14, u15, u16, u17, u18, .bool true, .bool false, .tuple #[.pointer (some ⟨hb, 0, none⟩), .slice (some ⟨gl, 0, none⟩) l.length pc, .bool true], .slice p L.length cap0, .tuple #[.pointer (some ⟨hb, 0, none⟩), .slice (some ⟨gl, 0, none⟩) l.length pc, .bool true], .pointer (some ⟨hb, 0, none⟩), .slice (some ⟨gl, 0, none⟩) l.length pc, .bool true, .bool true, .bool false, .bool false, .slice (some ⟨gl, 0, none⟩) l.length pc, .int .i64 (l.length : Int), .bool false, .bool false, undef, .slice (some ⟨gl, 0, none⟩) l.length pc, .int .i64 (l.length : Int), .slice (some ⟨gH, 0, none⟩) l.length l.length, .int .i64 (l.length : Int), .slice (some ⟨gl, 0, none⟩) l.length pc, .int .i64 (l.length : Int), .bool false, u42, u43, u44, u45, u46, u47, u48, u49, u50, u51, u52, u53, u54, u55, u56, u57, u58, u59, u60, u61, u62, v63, v64, v65, v66, v67, v68, v69, v70, v71, v72, v73, v74, v75, v76, v77, v78, v79, v80, v81, v82, v83, v84, v85, v86, v87, v88, v89, v90, v91, v92, v93, v94, v95, v96, v97, v98, v99, v100, v101, v102, v103, v104, v105, v106, v107, v108, v109, v110, v111, v112, v113, v114, v115, v116, v117, v118, v119, v120, v121, v122, v123, v124, v125, v126, v127, v128, v129, v130, v131, v132, v133, v134, v135, v136, v137, v138, v139, v140, v141, v142, v143, v144, v145, v146, v147, v148, v149, v150, v151, v152, v153, v154, v155, v156, v157, v158, v159, v160, v161, v162, v163, v164, v165, v166, v167, v168, v169, v170, v171, v172], defers := [] } W) := by
              intro W gw yk yn hk hha hw1 hgw ho1 v63 v64 v65 v66 v67 v68 v69 v70 v71 v72 v73 v74 v75 v76 v77 v78 v79 v80 v81 v82 v83 v84 v85 v86 v87 v88 v89 v90 v91 v92 v93 v94 v95 v96 v97 v98 v99 v100 v101 v102 v103 v104 v105 v106 v107 v108 v109 v110 v111 v112 v113 v114 v115 v116 v117 v118 v119 v120 v121 v122 v123 v124 v125 v126 v127 v128 v129 v130 v131 v132 v133 v134 v135 v136 v137 v138 v139 v140 v141 v142 v143 v144 v145 v146 v147 v148 v149 v150 v151 v152 v153 v154 v155 v156 v157 v158 v159 v160 v161 v162 v163 v164 v165 v166 v167 v168 v169 v170 v171 v172
              have HKc := hid_mk hk
              have HHc := hid_mk hha
              have fWc := hid_mk hw1
              have Hgw := hid_mk hgw
              have HOc := hid_mk ho1
              clear hk hha hw1 hgw ho1 HK1 HH1 HOw HoV fW
              obtain ⟨e0, he0⟩ : ∃ e, stE 4 st q A yk yn = e := ⟨_, rfl⟩
              obtain ⟨st1, hst1⟩ : ∃ t, stS 4 st q A yk yn = t := ⟨_, rfl⟩
              have HSt := hid_mk (fun X (o : Out 0 0 W X) => Set_st (HKc.out.1.quiet o) HKc.out.2.1 (o.cell HKc.out.2.2.1 (.inr (Nat.zero_le _))) HC.out.2.2.1 HqO.out.1 A yk yn he0 hst1)
              have Hst := hid_mk (And.intro he0 hst1)
              have HIv := hid_mk (And.intro HKc.out.1.2 (And.intro HKc.out.2.1 (fun a ha => (HKc.out.2.2.2.2.1 a ha).1)))
              clear he0 hst1
              apply hKC
              clear hKC
              apply wp_seq_k
              intro KD hKD
              have HKD : Hid (∀ (W : World) (gA : Nat), KSt X1 lo hi s cap hb gl gH W st1 l → HasTo W gH st l l.length 1 → W.heap[gw]? = some (.cells #[.int .i64 yk, .int .i64 yn] 31 (0, 0)) → W.heap[gA]? = some (.cells #[.int .i64 e0, .int .i64 0] 34 (0, 0)) → Out 0 0 w W → ∀ (v97 v98 v99 v100 v101 v102 v103 v104 v105 v106 v107 v108 v109 v110 v111 v112 v113 v114 v115 v116 v117 v118 v119 v120 v121 v122 v123 v124 v125 v126 v127 v128 v129 v130 v131 v132 v133 v134 v135 v136 v137 v138 v139 v140 v141 v142 v143 v144 v145 v146 v147 v148 v149 v150 v151 v152 v153 v154 v155 v156 v157 v158 v159 v160 v161 v162 v163 v164 v165 v166 v167 v168 v169 v170 v171 v172 : Value), KD { tmps := #[.slice p L.length cap0, .slice (some ⟨pg, poff, none⟩) os.length cap1, undef, undef, u4, .pointer (some ⟨hb, 0, none⟩), .slice (some ⟨gl, 0, none⟩) l.length pc, .bool true, .slice (some ⟨gH, 0, none⟩) l.length l.length, .int .i64 (l.length : Int), u10, .int .i64 (k : Int), .int .i64 (j : Int), .pointer (some ⟨gw, 0, none⟩), .pointer (some ⟨gA, 0, none⟩), u15, u16, u17, u18, .bool true, .bool false, .tuple #[.pointer (some ⟨hb, 0, none⟩), .slice (some ⟨gl, 0, none⟩) l.length pc, .bool true], .slice p L.length cap0, .tuple #[.pointer (some ⟨hb, 0, none⟩), .slice (some ⟨gl, 0, none⟩) l.length pc, .bool true], .pointer (some ⟨hb, 0, none⟩), .slice (some ⟨gl, 0, none⟩) l.length pc, .bool true, .bool true, .bool false, .bool false, .slice (some ⟨gl, 0, none⟩) l.length pc, .int .i64 (l.length : Int), .bool false, .bool false, undef, .slice (some ⟨gl, 0, none⟩) l.length pc, .int .i64 (l.length : Int), .slice (some ⟨gH, 0, none⟩) l.length l.length, .int .i64 (l.length : Int), .slice (some ⟨gl, 0, none⟩) l.length pc, .int .i64 (l.length : Int), .bool false, u42, u43, u44, u45, u46, u47, u48, u49, u50, u51, u52, u53, u54, u55, u56, u57, u58, u59, u60, u61, u62, v63, v64, v65, v66, v67, v68, v69, v70, v71, v72, v73, v74, v75, v76, v77, v78, v79, v80, v81, v82, v83, v84, v85, v86, v87, v88, v89, v90, v91, v92, v93, v94, v95, v96, v97, v98, v99, v100, v101, v102, v103, v104, v105, v106, v107, v108, v109, v110, v111, v112, v113, v114, v115, v116, v117, v118, v119, v120, v121, v122, v123, v124, v125, v126, v127, v128, v129, v130, v131, v132, v133, v134, v135, v136, v137, v138, v139, v140, v141, v142, v143, v144, v145, v146, v147, v148, v149, v150, v151, v152, v153, v154, v155, v156, v157, v158, v159, v160, v161, v162, v163, v164, v165, v166, v167, v168, v169, v170, v171, v172], defers := [] } W) := by
                intro W gA hk hha hw1 hf1 ho1 v97 v98 v99 v100 v101 v102 v103 v104 v105 v106 v107 v108 v109 v110 v111 v112 v113 v114 v115 v116 v117 v118 v119 v120 v121 v122 v123 v124 v125 v126 v127 v128 v129 v130 v131 v132 v133 v134 v135 v136 v137 v138 v139 v140 v141 v142 v143 v144 v145 v146 v147 v148 v149 v150 v151 v152 v153 v154 v155 v156 v157 v158 v159 v160 v161 v162 v163 v164 v165 v166 v167 v168 v169 v170 v171 v172
                have HKd := hid_mk hk
                have HHd := hid_mk hha
                have fWd := hid_mk hw1
                have fAd := hid_mk hf1
                have HOd := hid_mk ho1
                clear hk hha hw1 hf1 ho1 HKc HHc fWc HOc
                apply hKD
                clear hKD
                apply wp_seq_k
                intro KE hKE
                have HKE : Hid (∀ (W : World), KSt X1 lo hi s cap hb gl gH W st1 l → HasTo W gH st1 l l.length 1 → ∀ (v97 v98 v99 v100 v101 v102 v103 v104 v105 v106 v107 v108 v109 v110 v111 v112 v113 v114 v115 v116 v117 v118 v119 v120 v121 v122 v123 v124 v125 v126 v127 v128 v129 v130 v131 v132 v133 v134 v135 v136 v137 v138 v139 v140 v141 v142 v143 v144 v145 v146 v147 v148 v149 v150 v151 v152 v153 v154 v155 v156 v157 v158 v159 v160 v161 v162 v163 v164 v165 v166 v167 v168 v169 v170 v171 v172 : Value), KE { tmps := #[.slice p L.length cap0, .slice (some ⟨pg, poff, none⟩) os.length cap1, undef, undef, u4, .pointer (some ⟨hb, 0, none⟩), .slice (some ⟨gl, 0, none⟩) l.length pc, .bool true, .slice (some ⟨gH, 0, none⟩) l.length l.length, .int .i64 (l.length : Int), u10, .int .i64 (k : Int), .int .i64 (j : Int), .pointer (some ⟨gw, 0, none⟩), .pointer (some ⟨gA, 0, none⟩), u15, u16, u17, u18, .bool true, .bool false, .tuple #[.pointer (some ⟨hb, 0, none⟩), .slice (some ⟨gl, 0, none⟩) l.length pc, .bool true], .slice p L.length cap0, .tuple #[.pointer (some ⟨hb, 0, none⟩), .slice (some ⟨gl, 0, none⟩) l.length pc, .bool true], .pointer (some ⟨hb, 0, none⟩), .slice (some ⟨gl, 0, none⟩) l.length pc, .bool true, .bool true, .bool false, .bool false, .slice (some ⟨gl, 0, none⟩) l.length pc, .int .i64 (l.length : Int), .bool false, .bool false, undef, .slice (some ⟨gl, 0, none⟩) l.length pc, .int .i64 (l.length : Int), .slice (some ⟨gH, 0, none⟩) l.length l.length, .int .i64 (l.length : Int), .slice (some ⟨gl, 0, none⟩) l.length pc, .int .i64 (l.length : Int), .bool false, u42, u43, u44, u45, u46, u47, u48, u49, u50, u51, u52, u53, u54, u55, u56, u57, u58, u59, u60, u61, u62, v63, v64, v65, v66, v67, v68, v69, v70, v71, v72, v73, v74, v75, v76, v77, v78, v79, v80, v81, v82, v83, v84, v85, v86, v87, v88, v89, v90, v91, v92, v93, v94, v95, v96, v97, v98, v99, v100, v101, v102, v103, v104, v105, v106, v107, v108, v109, v110, v111, v112, v113, v114, v115, v116, v117, v118, v119, v120, v121, v122, v123, v124, v125, v126, v127, v128, v129, v130, v131, v132, v133, v134, v135, v136, v137, v138, v139, v140, v141, v142, v143, v144, v145, v146, v147, v148, v149, v150, v151, v152, v153, v154, v155, v156, v157, v158, v159, v160, v161, v162, v163, v164, v165, v166, v167, v168, v169, v170, v171, v172], defers := [] } W) := by
                  intro W hk hha v97 v98 v99 v100 v101 v102 v103 v104 v105 v106 v107 v108 v109 v110 v111 v112 v113 v114 v115 v116 v117 v118 v119 v120 v121 v122 v123 v124 v125 v126 v127 v128 v129 v130 v131 v132 v133 v134 v135 v136 v137 v138 v139 v140 v141 v142 v143 v144 v145 v146 v147 v148 v149 v150 v151 v152 v153 v154 v155 v156 v157 v158 v159 v160 v161 v162 v163 v164 v165 v166 v167 v168 v169 v170 v171 v172
                  have HKe := hid_mk hk
                  have HHe := hid_mk hha
                  clear hk hha HKd HHd fWd fAd HOd
                  apply hKE
                  clear hKE
                  go_wp2_with fail
                  go_loopw [15] (fun x wr => ∃ m : Nat, m ≤ l.length ∧ x = .int .i64 m ∧ KSt X1 lo hi s cap hb gl gH wr st1 l ∧ HasTo wr gH st1 l l.length 1) (fun x _ => l.length - (intOf x).toNat)
                  case atStart => exact ⟨0, Nat.zero_le _, rfl, HKe.out, HHe.out⟩
                  case round =>
                    obtain ⟨m, m1, rfl, hk, hha⟩ := hrel
                    have HKf := hid_mk hk
                    have HHf := hid_mk hha
                    have m0 : (0 : Int) ≤ (m : Int) := by omega
                    clear HKe HHe hk hha
                    by_cases hgo : m < l.length
                    · have g5 : (m : Int) < (l.length : Int) := by omega
                      obtain ⟨q5, hq5⟩ : ∃ q, l[m]? = some q := ⟨_, List.getElem?_eq_getElem hgo⟩
                      have Hm := hid_mk (And.intro hgo hq5)
                      have m12 : (m : Int) < 12 := by have := Hl.out.2; omega
                      clear hgo hq5
                      go_wp2_with fail
                      go_loopw [16] (fun x wr => ∃ a : Nat, 1 ≤ a ∧ a ≤ 9 ∧ x = .int .i64 a ∧ KSt X1 lo hi s cap hb gl gH wr st1 l ∧ HasTo wr gH st1 l l.length 1) (fun x _ => 9 - (intOf x).toNat)
                      case atStart => exact ⟨1, Nat.le_refl _, by omega, rfl, HKf.out, HHf.out⟩
                      case round =>
                        obtain ⟨a, a1, a2, rfl, hk, hha⟩ := hrel
                        have HKg := hid_mk hk
                        have HHg := hid_mk hha
                        have a0 : (0 : Int) ≤ (a : Int) := by omega
                        clear HKf HHf hk hha
                        by_cases h9 : a < 9
                        · have g6 : (a : Int) < 9 := by omega
                          have g7 : (a : Int) < 10 := by omega
                          obtain ⟨c1, c2⟩ := HKg.out.2.2.2.1 m q5 Hm.out.2
                          obtain ⟨⟨y1, y2, y3, y4⟩, hy⟩ : ∃ y, gtQ 4 st1 q5 (a : Int) = y := ⟨_, rfl⟩
                          have hqO := (HKg.out.2.2.2.2.1 q5 (List.mem_of_getElem? Hm.out.2)).1
                          have hone := gt_one HKg.out.2.1 hqO hy
                          have hcl := HHg.out.at Hm.out.2 a1 (by omega) (.inl Hm.out.1) hy
                          have HG := hid_mk (Get_gt HKg.out.1 HKg.out.2.2.1 hqO (a : Int) hy)
                          have Hone := hid_mk hone
                          have Hcl := hid_mk hcl
                          clear hy hqO hone hcl
                          go_wp2_with fail
                          refine HG.out.mono ?_
                          rintro e X5 ⟨rfl, q5o⟩
                          clear HG c1 c2
                          have HKx0 := hid_mk (HKg.out.quiet q5o)
                          have HHx0 := hid_mk (HHg.out.kept q5o (.inr (Nat.zero_le _)))
                          have Hcx := hid_mk (And.intro (q5o.cell Hcl.out.1 (.inr (Nat.zero_le _))) (q5o.cell Hcl.out.2 (.inr (Nat.zero_le _))))
                          clear q5o HKg HHg Hcl
                          go_wp2_with fail
                          have o5 := ((Out.refl 0 0 X5).alloc (.cells #[.int .i64 y1, .int .i64 y2] 31)).alloc (.cells #[.int .i64 y3, .int .i64 y4] 34)
                          have fX := two_first (w := X5) (o := .cells #[.int .i64 y1, .int .i64 y2] 31) (o2 := .cells #[.int .i64 y3, .int .i64 y4] 34)
                          have fF := two_second (w := X5) (o := .cells #[.int .i64 y1, .int .i64 y2] 31) (o2 := .cells #[.int .i64 y3, .int .i64 y4] 34)
                          obtain ⟨V5, hV5⟩ : ∃ V, (X5.alloc (.cells #[.int .i64 y1, .int .i64 y2] 31)).alloc (.cells #[.int .i64 y3, .int .i64 y4] 34) = V := ⟨_, rfl⟩
                          obtain ⟨gx, hgx⟩ : ∃ g, X5.heap.size = g := ⟨_, rfl⟩
                          rw [hV5] at o5 fX fF ⊢
                          rw [hgx] at fX fF
                          (try rw [hgx])
                          clear hV5 hgx
                          have HKx := hid_mk (HKx0.out.quiet o5)
                          have HHx := hid_mk (HHx0.out.kept o5 (.inr (Nat.zero_le _)))
                          obtain ⟨x0, x1, _, _⟩ := val_facts fX
                          have f0 := (flt_facts fF).1
                          have h0 := o5.cell Hcx.out.1 (.inr (Nat.zero_le _))
                          have h1 := o5.cell Hcx.out.2 (.inr (Nat.zero_le _))
                          obtain ⟨z, hz3⟩ : ∃ z, (y3 != 0) = z := ⟨_, rfl⟩
                          have hN := nevv y1 y2
                          have hE : ∀ W, (binOp .eql 31 (.agg #[.int .i64 y1, .int .i64 y2]) (.agg #[.int .i64 0, .int .i64 0])).run Tryd.prog W = .ok (.bool z) W := fun W => by
                            rw [eqv, ← hz3]
                            rcases Hone.out with ⟨e1, e2⟩ | ⟨e1, e2, e3⟩
                            · rw [e1, show (y1 == 0) = false from by simp; omega]; rfl
                            · rw [e2, e3, show (y3 != 0) = true from by simp [e1]]; rfl
                          have hzz : (z != z) = false := by simp
                          clear fX fF o5 Hcx HKx0 HHx0 Hone
                          refine wp_region_held_drew (S := fun w' => w'.cell? ⟨gx, 0, none⟩ = some (.int .i64 y1) ∧ w'.cell? ⟨gx, 1, none⟩ = some (.int .i64 y2) ∧ w'.cell? ⟨gH, m * 20 + a * 2, none⟩ = some (.int .i64 y1) ∧ w'.cell? ⟨gH, m * 20 + a * 2 + 1, none⟩ = some (.int .i64 y2) ∧ w'.cell? ⟨gx + 1, 0, none⟩ = some (.int .i64 y3)) (by kernel_rfl) ?hS78 (fun hHeld => ?rest78)
                          case hS78 => exact ⟨x0, x1, h0, h1, f0⟩
                          refine tk 0 ?_
                          refine tk 1 ?_
                          refine tk 2 ?_
                          refine tk 3 ?_
                          refine tk 4 ?_
                          refine tk 5 ?_
                          refine tk 6 ?_
                          refine tk 7 ?_
                          refine tk 8 ?_
                          refine tk 9 ?_
                          refine tk 10 ?_
                          refine tk 11 ?_
                          refine tk 12 ?_
                          refine tk 13 ?_
                          refine tk 14 ?_
                          refine tk 15 ?_
                          refine tk 16 ?_
                          refine wpAnyH_done (by kernel_rfl) ?_ _
                          clear hHeld x0 x1 h0 h1 f0 hN hE hzz hz3
                          go_wp2
                          go_roundw
                          case rel => exact ⟨a + 1, by omega, by omega, by go_num, (HKx.out.quiet (Out.refl 0 0 _).drew), (HHx.out.kept (Out.refl 0 0 _).drew (.inr (Nat.zero_le _)))⟩
                          case measure => simp [intOf]; omega
                        · have g6 : (9 : Int) ≤ (a : Int) := by omega
                          go_wp2
                          go_roundw
                          case rel => exact ⟨m + 1, Hm.out.1, by go_num, HKg.out, HHg.out⟩
                          case measure => have := Hm.out.1; simp [intOf]; omega
                    · have g5 : (l.length : Int) ≤ (m : Int) := by omega
                      go_wp2
                      go_roundw
                      case rel => exact ⟨k + 1, st1, by have := Hk.out.2; omega, by go_num, HKf.out, HHf.out⟩
                      case measure => have := Hk.out.2; simp [intOf]; omega

                clear hKE
                by_cases he : e0 = 0
                · subst he
                  have hsb := st_named Hst.out.1
                  obtain ⟨a, rfl, a1, a2, _, _⟩ := st_facts hsb
                  have a8 : a ≤ 8 := by have := HqO.out.2; omega
                  have f0 := (flt_facts fAd.out).1
                  obtain ⟨b0, b1, _, _⟩ := val_facts fWd.out
                  have p1 := HOd.out.cell HPc.out.2.1 (.inr (Nat.zero_le _))
                  have t1 : (1 : Int) ≤ (a : Int) := by omega
                  have t8 : (a : Int) ≤ 8 := by omega
                  have t9 : (a : Int) < 10 := by omega
                  have t0 : (0 : Int) ≤ (a : Int) := by omega
                  go_wp2_with fail
                  refine wp_region_held_drew (S := fun w' => w'.cell? ⟨pg, poff + k * 4 + 1, none⟩ = some (.int .i64 (a : Int)) ∧ w'.cell? ⟨gw, 0, none⟩ = some (.int .i64 yk) ∧ w'.cell? ⟨gw, 1, none⟩ = some (.int .i64 yn)) (by kernel_rfl) ?hS96 (fun hHeld => ?rest96)
                  case hS96 => exact ⟨p1, b0, b1⟩
                  obtain ⟨Z, hZ⟩ : ∃ Z, W.drew = Z := ⟨_, rfl⟩
                  have OZ : Out 0 0 W Z := by rw [← hZ]; exact (Out.refl 0 0 _).drew
                  rw [hZ] at hHeld ⊢
                  clear hZ
                  refine tk 0 ?_
                  refine tk 1 ?_
                  refine tk 2 ?_
                  refine tk 3 ?_
                  refine tk 4 ?_
                  refine tk 5 ?_
                  refine tk 6 ?_
                  refine tk 7 ?_
                  refine tk 8 ?_
                  refine tk 9 ?_
                  refine wpAnyH_ready (rs := [10]) (by kernel_rfl) (by simp) ?_
                  refine AllReadyH.cons rfl (fun KK hK => ?_) AllReadyH.nil
                  simp only [xa, xb, xc]
                  obtain ⟨⟨x1, c3⟩, ⟨x2, c4⟩, c5, c6⟩ := (HHd.out.kept OZ (.inr (Nat.zero_le _))).cells (j := j) (a := a) Hq.out.1 a8
                  go_simp
                  clear c3 c4 c5 c6
                  have HN := hid_mk ((HHd.out.kept OZ (.inr (Nat.zero_le _))).put Hnd.out HIv.out.1 HIv.out.2.1 HIv.out.2.2 Hq.out.2 hsb a8)
                  rw [Hst.out.2] at HN
                  obtain ⟨X8, hX8⟩ : ∃ V, ((Z.setCell ⟨gH, j * 20 + a * 2, none⟩ (.int .i64 yk)).setCell ⟨gH, j * 20 + a * 2 + 1, none⟩ (.int .i64 yn)) = V := ⟨_, rfl⟩
                  have q8 : Out gH (gH + 1) Z X8 := by rw [← hX8]; exact ((Out.refl _ _ _).setCell (p := ⟨gH, j * 20 + a * 2, none⟩) (.inl ⟨Nat.le_refl _, Nat.lt_succ_self _⟩) _).setCell (p := ⟨gH, j * 20 + a * 2 + 1, none⟩) (.inl ⟨Nat.le_refl _, Nat.lt_succ_self _⟩) _
                  rw [hX8] at HN ⊢
                  clear hX8
                  have HKn := hid_mk ((HKd.out.quiet OZ).row HC.out q8)
                  refine hK.out _ _ ?hS107 (fun hHeld2 => ?rest107)
                  case hS107 => exact ⟨q8.cell hHeld.1 (.inl (by have h1 := HC.out; have h2 := Hpg.out; have h3 := HWl.out; obtain ⟨k1, k2, k3, k4, k5⟩ := h1; omega)), q8.cell hHeld.2.1 (.inr (by have := Hgw.out; omega)), q8.cell hHeld.2.2 (.inr (by have := Hgw.out; omega))⟩
                  clear q8
                  clear hK KK
                  (try clear hHeld)
                  have hHeld := hHeld2
                  clear hHeld2
                  (try simp only [Act.put, xa, xb, xc, xd, xe, xf])
                  refine wpAnyH_done (by kernel_rfl) ?_ _
                  clear hHeld
                  go_wp2_with fail
                  apply HKE.out _ HKn.out HN.out

                · have he' : (e0 == 0) = false := by simpa using he
                  have f0 := (flt_facts fAd.out).1
                  have HHn : Hid (HasTo W gH st1 l l.length 1) := by
                    have h := HHd.out
                    have e : st1 = st := by
                      rw [← Hst.out.2]
                      unfold stS
                      rw [st_not (by rw [Hst.out.1]; exact he)]
                      simp
                    rw [e]
                    exact h
                  go_wp2_with fail
                  apply HKE.out _ HKd.out HHn.out

              clear hKD
              obtain ⟨u0, u1⟩ := HKc.out.2.2.2.1 j q Hq.out.2
              obtain ⟨b0, b1, _, _⟩ := val_facts fWc.out
              have a0 := HOc.out.cell HPc.out.2.1 (.inr (Nat.zero_le _))
              have HtopV : Hid (hi ≤ W.heap.size) := HKc.out.1.1.top
              have Hb : Hid (hi ≤ gl ∧ pg < lo ∧ hi ≤ gw ∧ (gl < W.heap.size ∧ pg < W.heap.size ∧ gw < W.heap.size)) := by
                obtain ⟨k1, k2, k3, k4, k5⟩ := HC.out
                have h2 := Hpg.out
                have h3 := HWl.out
                have h4 := Hgw.out
                exact ⟨by omega, by omega, by omega, cell_lt u0, cell_lt a0, cell_lt b0⟩
              refine wp_region_held_drew (S := fun w' => w'.cell? ⟨gl, j * 2, none⟩ = some (.int .i64 2) ∧ w'.cell? ⟨gl, j * 2 + 1, none⟩ = some (.int .i64 (q : Int)) ∧ w'.cell? ⟨pg, poff + k * 4 + 1, none⟩ = some (.int .i64 A) ∧ w'.cell? ⟨gw, 0, none⟩ = some (.int .i64 yk) ∧ w'.cell? ⟨gw, 1, none⟩ = some (.int .i64 yn)) (by kernel_rfl) ?hS108 (fun hHeld => ?rest108)
              case hS108 => exact ⟨u0, u1, a0, b0, b1⟩
              obtain ⟨Z, hZ⟩ : ∃ Z, W.drew = Z := ⟨_, rfl⟩
              have O : Out 0 0 W Z := by rw [← hZ]; exact (Out.refl 0 0 _).drew
              rw [hZ] at hHeld ⊢
              clear hZ
              refine tk 0 ?_
              refine tk 1 ?_
              refine tk 2 ?_
              refine tk 3 ?_
              refine tk 4 ?_
              refine tk 5 ?_
              refine tk 6 ?_
              refine tk 7 ?_
              refine tk 8 ?_
              refine tk 9 ?_
              refine tk 10 ?_
              refine wpAnyH_ready (rs := [11, 12]) (by kernel_rfl) (by simp) ?_
              refine AllReadyH.cons rfl (fun KK hK => ?_) ?_
              · simp only [xa, xb, xc]
                go_simp
                refine (HSt.out _ O).mono ?_
                rintro e ZC ⟨rfl, P9, q1⟩
                have OL := (O.any lo hi).trans q1
                refine hK.out _ _ ?hS120 (fun hHeld2 => ?rest120)
                case hS120 => exact ⟨q1.cell hHeld.1 (.inr Hb.out.1), q1.cell hHeld.2.1 (.inr Hb.out.1), q1.cell hHeld.2.2.1 (.inl Hb.out.2.1), q1.cell hHeld.2.2.2.1 (.inr Hb.out.2.2.1), q1.cell hHeld.2.2.2.2 (.inr Hb.out.2.2.1)⟩
                clear q1 O
                clear hK KK
                (try clear hHeld)
                have hHeld := hHeld2
                clear hHeld2
                (try simp only [Act.put, xa, xb, xc, xd, xe, xf])
                refine wpAnyH_ready (rs := [12]) (by kernel_rfl) (by simp) ?_
                refine AllReadyH.cons rfl (fun KK hK => ?_) ?_
                · simp only [xa, xb, xc]
                  go_simp
                  obtain ⟨gA, hgf⟩ : ∃ g, ZC.heap.size = g := ⟨_, rfl⟩
                  obtain ⟨ZCA, hY⟩ : ∃ V, ZC.alloc (.cells #[.int .i64 0, .int .i64 0] 34) = V := ⟨_, rfl⟩
                  have qA : Out 0 0 ZC ZCA := by rw [← hY]; exact (Out.refl 0 0 _).alloc _
                  have fA : ZCA.heap[gA]? = some (.cells #[.int .i64 0, .int .i64 0] 34 (0, 0)) := by rw [← hY, ← hgf]; exact heap_alloc_new _ _
                  have hgA : W.heap.size ≤ gA := by have := OL.size; omega
                  (try rw [hY])
                  (try rw [hgf])
                  clear hY hgf
                  replace P9 := P9.quiet qA
                  replace OL := OL.trans (qA.any lo hi)
                  refine hK.out _ _ ?hS121 (fun hHeld2 => ?rest121)
                  case hS121 => exact ⟨qA.cell hHeld.1 (.inr (Nat.zero_le _)), qA.cell hHeld.2.1 (.inr (Nat.zero_le _)), qA.cell hHeld.2.2.1 (.inr (Nat.zero_le _)), qA.cell hHeld.2.2.2.1 (.inr (Nat.zero_le _)), qA.cell hHeld.2.2.2.2 (.inr (Nat.zero_le _))⟩
                  clear qA
                  clear hK KK
                  (try clear hHeld)
                  have hHeld := hHeld2
                  clear hHeld2
                  (try simp only [Act.put, xa, xb, xc, xd, xe, xf])
                  refine wpAnyH_ready (rs := [13]) (by kernel_rfl) (by simp) ?_
                  refine AllReadyH.cons rfl (fun KK hK => ?_) ?_
                  · simp only [xa, xb, xc]
                    obtain ⟨y0, y1, y2, y3⟩ := flt_facts fA
                    go_simp
                    clear y0 y1 y2 y3
                    obtain ⟨ZCAS, hY⟩ : ∃ V, ((ZCA.setCell ⟨gA, 0, none⟩ (.int .i64 e0)).setCell ⟨gA, 1, none⟩ (.int .i64 0)) = V := ⟨_, rfl⟩
                    have qS : Out gA (gA + 1) ZCA ZCAS := by rw [← hY]; exact ((Out.refl _ _ _).setCell (p := ⟨gA, 0, none⟩) (.inl ⟨Nat.le_refl _, Nat.lt_succ_self _⟩) _).setCell (p := ⟨gA, 1, none⟩) (.inl ⟨Nat.le_refl _, Nat.lt_succ_self _⟩) _
                    replace OL : Out lo hi W ZCAS := by rw [← hY]; exact (OL.setCell (p := ⟨gA, 0, none⟩) (.inr hgA) _).setCell (p := ⟨gA, 1, none⟩) (.inr hgA) _
                    have fB : ZCAS.heap[gA]? = some (.cells #[.int .i64 e0, .int .i64 0] 34 (0, 0)) := by rw [← hY]; exact flt_set fA
                    have P10 : SpAt ZCAS lo hi s 4 cap st1 := P9.kept qS (.inl (by have h1 := HtopV.out; omega)) (.inl (by have h1 := HtopV.out; have h2 := P9.1.glob; have h3 := P9.1.inn 0 (by omega); omega))
                    (try rw [hY])
                    clear hY fA P9
                    refine hK.out _ _ ?hS122 (fun hHeld2 => ?rest122)
                    case hS122 => exact ⟨qS.cell hHeld.1 (.inl (by have h1 := Hb.out.2.2.2; omega)), qS.cell hHeld.2.1 (.inl (by have h1 := Hb.out.2.2.2; omega)), qS.cell hHeld.2.2.1 (.inl (by have h1 := Hb.out.2.2.2; omega)), qS.cell hHeld.2.2.2.1 (.inl (by have h1 := Hb.out.2.2.2; omega)), qS.cell hHeld.2.2.2.2 (.inl (by have h1 := Hb.out.2.2.2; omega))⟩
                    clear qS
                    clear hK KK
                    (try clear hHeld)
                    have hHeld := hHeld2
                    clear hHeld2
                    (try simp only [Act.put, xa, xb, xc, xd, xe, xf])
                    refine wpAnyH_done (by kernel_rfl) ?_ _
                    clear hHeld u0 u1 a0 b0 b1 HSt
                    obtain ⟨r1, r2⟩ := st_right (i := A) (xk := yk) (xn := yn) HKc.out.1.2 HKc.out.2.1 HqO.out.1
                    rw [Hst.out.2] at r1 r2
                    have HKn := hid_mk (HKc.out.set HC.out P10 r1 r2 OL)
                    have HHn := hid_mk (HHc.out.kept OL (.inr (by obtain ⟨k1, k2, k3, k4, k5⟩ := HC.out; omega)))
                    have fWn := hid_mk (OL.heap fWc.out (.inr Hb.out.2.2.1))
                    have HOn := hid_mk (HOc.out.then OL HWl.out)
                    clear OL P10 r1 r2
                    go_wp2_with fail
                    apply HKD.out _ gA HKn.out HHn.out fWn.out fB HOn.out
                  · exact AllReadyH.nil
                · exact AllReadyH.nil
              · refine AllReadyH.cons rfl (fun KK hK => ?_) ?_
                · simp only [xa, xb, xc]
                  go_simp
                  obtain ⟨gA, hgf⟩ : ∃ g, Z.heap.size = g := ⟨_, rfl⟩
                  obtain ⟨ZA, hY⟩ : ∃ V, Z.alloc (.cells #[.int .i64 0, .int .i64 0] 34) = V := ⟨_, rfl⟩
                  have qA : Out 0 0 Z ZA := by rw [← hY]; exact (Out.refl 0 0 _).alloc _
                  have fA : ZA.heap[gA]? = some (.cells #[.int .i64 0, .int .i64 0] 34 (0, 0)) := by rw [← hY, ← hgf]; exact heap_alloc_new _ _
                  have hgA : W.heap.size ≤ gA := by have := O.size; omega
                  (try rw [hY])
                  (try rw [hgf])
                  clear hY hgf
                  replace O := O.trans qA
                  refine hK.out _ _ ?hS123 (fun hHeld2 => ?rest123)
                  case hS123 => exact ⟨qA.cell hHeld.1 (.inr (Nat.zero_le _)), qA.cell hHeld.2.1 (.inr (Nat.zero_le _)), qA.cell hHeld.2.2.1 (.inr (Nat.zero_le _)), qA.cell hHeld.2.2.2.1 (.inr (Nat.zero_le _)), qA.cell hHeld.2.2.2.2 (.inr (Nat.zero_le _))⟩
                  clear qA
                  clear hK KK
                  (try clear hHeld)
                  have hHeld := hHeld2
                  clear hHeld2
                  (try simp only [Act.put, xa, xb, xc, xd, xe, xf])
                  refine wpAnyH_ready (rs := [11]) (by kernel_rfl) (by simp) ?_
                  refine AllReadyH.cons rfl (fun KK hK => ?_) ?_
                  · simp only [xa, xb, xc]
                    go_simp
                    refine (HSt.out _ O).mono ?_
                    rintro e ZAC ⟨rfl, P9, q1⟩
                    have OL := (O.any lo hi).trans q1
                    replace fA := q1.heap fA (.inr (by have h1 := HtopV.out; omega))
                    refine hK.out _ _ ?hS124 (fun hHeld2 => ?rest124)
                    case hS124 => exact ⟨q1.cell hHeld.1 (.inr Hb.out.1), q1.cell hHeld.2.1 (.inr Hb.out.1), q1.cell hHeld.2.2.1 (.inl Hb.out.2.1), q1.cell hHeld.2.2.2.1 (.inr Hb.out.2.2.1), q1.cell hHeld.2.2.2.2 (.inr Hb.out.2.2.1)⟩
                    clear q1 O
                    clear hK KK
                    (try clear hHeld)
                    have hHeld := hHeld2
                    clear hHeld2
                    (try simp only [Act.put, xa, xb, xc, xd, xe, xf])
                    refine wpAnyH_ready (rs := [13]) (by kernel_rfl) (by simp) ?_
                    refine AllReadyH.cons rfl (fun KK hK => ?_) ?_
                    · simp only [xa, xb, xc]
                      obtain ⟨y0, y1, y2, y3⟩ := flt_facts fA
                      go_simp
                      clear y0 y1 y2 y3
                      obtain ⟨ZACS, hY⟩ : ∃ V, ((ZAC.setCell ⟨gA, 0, none⟩ (.int .i64 e0)).setCell ⟨gA, 1, none⟩ (.int .i64 0)) = V := ⟨_, rfl⟩
                      have qS : Out gA (gA + 1) ZAC ZACS := by rw [← hY]; exact ((Out.refl _ _ _).setCell (p := ⟨gA, 0, none⟩) (.inl ⟨Nat.le_refl _, Nat.lt_succ_self _⟩) _).setCell (p := ⟨gA, 1, none⟩) (.inl ⟨Nat.le_refl _, Nat.lt_succ_self _⟩) _
                      replace OL : Out lo hi W ZACS := by rw [← hY]; exact (OL.setCell (p := ⟨gA, 0, none⟩) (.inr hgA) _).setCell (p := ⟨gA, 1, none⟩) (.inr hgA) _
                      have fB : ZACS.heap[gA]? = some (.cells #[.int .i64 e0, .int .i64 0] 34 (0, 0)) := by rw [← hY]; exact flt_set fA
                      have P10 : SpAt ZACS lo hi s 4 cap st1 := P9.kept qS (.inl (by have h1 := HtopV.out; omega)) (.inl (by have h1 := HtopV.out; have h2 := P9.1.glob; have h3 := P9.1.inn 0 (by omega); omega))
                      (try rw [hY])
                      clear hY fA P9
                      refine hK.out _ _ ?hS125 (fun hHeld2 => ?rest125)
                      case hS125 => exact ⟨qS.cell hHeld.1 (.inl (by have h1 := Hb.out.2.2.2; omega)), qS.cell hHeld.2.1 (.inl (by have h1 := Hb.out.2.2.2; omega)), qS.cell hHeld.2.2.1 (.inl (by have h1 := Hb.out.2.2.2; omega)), qS.cell hHeld.2.2.2.1 (.inl (by have h1 := Hb.out.2.2.2; omega)), qS.cell hHeld.2.2.2.2 (.inl (by have h1 := Hb.out.2.2.2; omega))⟩
                      clear qS
                      clear hK KK
                      (try clear hHeld)
                      have hHeld := hHeld2
                      clear hHeld2
                      (try simp only [Act.put, xa, xb, xc, xd, xe, xf])
                      refine wpAnyH_done (by kernel_rfl) ?_ _
                      clear hHeld u0 u1 a0 b0 b1 HSt
                      obtain ⟨r1, r2⟩ := st_right (i := A) (xk := yk) (xn := yn) HKc.out.1.2 HKc.out.2.1 HqO.out.1
                      rw [Hst.out.2] at r1 r2
                      have HKn := hid_mk (HKc.out.set HC.out P10 r1 r2 OL)
                      have HHn := hid_mk (HHc.out.kept OL (.inr (by obtain ⟨k1, k2, k3, k4, k5⟩ := HC.out; omega)))
                      have fWn := hid_mk (OL.heap fWc.out (.inr Hb.out.2.2.1))
                      have HOn := hid_mk (HOc.out.then OL HWl.out)
                      clear OL P10 r1 r2
                      go_wp2_with fail
                      apply HKD.out _ gA HKn.out HHn.out fWn.out fB HOn.out
                    · exact AllReadyH.nil
                  · exact AllReadyH.nil
                · exact AllReadyH.nil

            clear hKC
            have Hgv : Hid (gH < X3.heap.size) := HK1.out.2.2.2.2.2.2
            by_cases h100 : xk = 100
            · subst h100
              go_wp2_with fail
              refine (HW2.out _).mono ?_
              rintro e X4 ⟨j2, hj2, rfl, rfl⟩
              obtain ⟨q2, hq2⟩ : ∃ q, l[j2]? = some q := ⟨_, List.getElem?_eq_getElem hj2⟩
              obtain ⟨c3, c4⟩ := HK1.out.2.2.2.1 j2 q2 hq2
              have j3 : (j2 : Int) < (l.length : Int) := by omega
              have j4 : (0 : Int) ≤ (j2 : Int) := by omega
              have c5 := HoV.out.cell c3 (.inr (Nat.zero_le _))
              have c6 := HoV.out.cell c4 (.inr (Nat.zero_le _))
              obtain ⟨b0, b1, b2, b3⟩ := val_facts fW.out
              have fW2 := hid_mk (heap_alloc_new X3 (.cells #[.int .i64 2, .int .i64 (q2 : Int)] 31))
              have HoV2 := hid_mk ((Out.refl 0 0 X3).alloc (.cells #[.int .i64 2, .int .i64 (q2 : Int)] 31))
              clear hq2 hj2 c3 c4 HW2
              go_wp2_with fail
              apply HKC.out _ _ _ _ (HK1.out.quiet HoV2.out) (HH1.out.kept HoV2.out (.inr (Nat.zero_le _))) fW2.out Hgv.out (HOw.out.trans HoV2.out)
            · have h100' : (xk == 100) = false := by simpa using h100
              obtain ⟨b0, b1, b2, b3⟩ := val_facts fW.out
              clear h100
              go_wp2_with fail
              apply HKC.out _ _ _ _ (HK1.out.quiet HoV.out) (HH1.out.kept HoV.out (.inr (Nat.zero_le _))) fW.out Hgv.out (HOw.out.trans HoV.out)
          · have g3 : (60 : Int) ≤ (k : Int) := by omega
            go_wp2
            go_ret
            exact ⟨rfl, HO1.out.trans HK1.out.2.2.2.2.2.1⟩
        · have g2 : (os.length : Int) ≤ (k : Int) := by omega
          go_wp2
          go_ret
          exact ⟨rfl, HO1.out.trans HK1.out.2.2.2.2.2.1⟩
end Go.Proofs.YtcpignkjlnjjmaaDoor
