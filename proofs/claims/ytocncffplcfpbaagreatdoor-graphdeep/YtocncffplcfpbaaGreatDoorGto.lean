/- graph: (*node).tell, and what its list holds -/
import Derived.Test.YtocncffplcfpbaaGreatDoorGtm
import Derived.Test.YtocncffplcfpbaaGreatDoorGrt
import Derived.Laws.MakeOwn
namespace Go.Proofs.YtocncffplcfpbaaGreatDoor
open Go.RowKit Go.MapKept
set_option linter.unusedVariables false
set_option linter.unusedSimpArgs false

theorem ne_NV : 32 ≠ 28 := by decide
/-- a row that begins with these values -/
def VB (w : World) (b : Nat) (l : List VP) : Prop := ∃ cur, Bl w b cur 28 ∧ ∀ (j : Nat) u, (vcs l)[j]? = some u → cur[j]? = some u
section
variable {w w' : World} {b : Nat} {l : List VP}
theorem VB.fx {S : Nat → Prop} (h : VB w b l) (x : Fx S w w') (hS : ¬ S b) : VB w' b l := by
  obtain ⟨cur, h1, h2⟩ := h
  exact ⟨cur, h1.fx x hS, h2⟩
theorem VB.quiet (h : VB w b l) (x : Out 0 0 w w') : VB w' b l := h.fx (S := fun _ => False) (Fx.of_out x) id
theorem VB.ne (h : VB w b l) {g : Nat} {cs : Array Value} {T : TypeId} (hb : Bl w g cs T) (hT : T ≠ 28) : ¬ b = g := by
  rintro rfl
  obtain ⟨cur, h1, _⟩ := h
  exact vr_bl hb hT ⟨cur, h1⟩
theorem VB.lt (h : VB w b l) : b < w.heap.size := by
  obtain ⟨cur, h1, _⟩ := h
  exact h1.lt
theorem VB.vs (h : VB w b l) : VsAt w (some ⟨b, 0, none⟩) l := by
  obtain ⟨cur, h1, h2⟩ := h
  refine .inr ⟨b, 0, rfl, fun j v hj => ?_⟩
  obtain ⟨e1, e2⟩ := vcs_get hj
  rw [Nat.zero_add]
  exact ⟨h1.cell (h2 _ _ e1), h1.cell (h2 _ _ e2)⟩
end
set_option maxRecDepth 100000 in
set_option maxHeartbeats 4000000 in
theorem clone_own {w : World} {gf off n c : Nat} {l : List VP} (hl : l.length = n) (hn : 0 < n) (hn2 : n ≤ 1000000) (hv : VsAt w (some ⟨gf, off, none⟩) l) :
    Calls Tryz.prog 24 #[.slice (some ⟨gf, off, none⟩) n c] w fun e w' => ∃ b cap, e = .returned (.slice (some ⟨b, 0, none⟩) n cap) ∧ Out 0 0 w w' ∧ w.heap.size ≤ b ∧ VB w' b l := by
  have hq := sl_ne
  have oE : Out 0 0 w (w.alloc (.cells #[] 28)) := (Out.refl 0 0 w).alloc _
  obtain ⟨a', cap', Z, q1, q2, q3, q4⟩ := app_at (w := w.alloc (.cells #[] 28)) Tryz.underlying24 info_v rfl (by decide) (by decide) (c := c) (ys := vcs l) (own_zero w 28 2) (by rw [size_alloc]; omega) (.inr ⟨gf, off, rfl, fun j u hj => by
    rcases hv with h0 | ⟨g', off', hg', hc⟩
    · subst h0; simp at hl; omega
    · cases hg'
      obtain ⟨i, v, hi, hu⟩ := vcs_at hj
      rcases hu with ⟨rfl, rfl⟩ | ⟨rfl, rfl⟩
      · exact oE.cell (hc i v hi).1 (.inr (Nat.zero_le _))
      · have := oE.cell (hc i v hi).2 (.inr (Nat.zero_le _))
        rwa [Nat.add_assoc] at this⟩) (by rw [vcs_len, hl]) vcs_one (by omega) (by omega) 24
  obtain ⟨b, cur, rfl, hb, -, hcb, -, -, -, htk⟩ := own_cellsX q2 (by omega)
  have hE : VB Z b l := ⟨cur, hcb, fun j u hj => by
    rw [List.nil_append] at htk
    rw [← htk] at hj
    have hlt := (List.getElem?_eq_some_iff.1 hj).1
    rw [List.length_take] at hlt
    rw [List.getElem?_take_of_lt (by omega)] at hj
    simpa using hj⟩
  have HE : Hid (Out 0 0 w Z ∧ w.heap.size ≤ b ∧ VB Z b l) := hid_mk ⟨((Fx.of_out (S := fun _ => False) oE).then q3 (fun k h1 h2 => by simp [Value.ownBlock] at h2; omega)).out (fun _ _ q => q), hb, hE⟩
  rw [Nat.zero_add] at q1
  have HR := hid_mk q1
  clear q1 q2 q3 q4 hb oE hl hv hE hcb htk
  go_enter Tryz.func24, Tryz.ntmps24
  go_wp2_with (at_builtin; refine app_st rfl _ _ _ _ rfl rfl rfl HR.out ?_)
  go_ret
  exact ⟨b, cap', rfl, HE.out⟩
set_option maxRecDepth 100000 in
set_option maxHeartbeats 8000000 in
theorem ntell_own {W : World} {n gf off nf fc : Nat} {K id : Int} {l : List (Int × Int)} (hn : Bl W n (ndc K (.slice none 0 0) (.slice (some ⟨gf, off, none⟩) nf fc)) 94) (hl : l.length = nf) (hn1 : 0 < nf) (hn2 : nf ≤ 1000000) (hv : VsAt W (some ⟨gf, off, none⟩) l) :
    Calls Tryz.prog 26 #[.pointer (some ⟨n, 0, none⟩), .int .i64 id] W fun e w' => ∃ b cap, e = .returned (.agg #[.int .i64 id, .int .i64 K, .slice none 0 0, .slice (some ⟨b, 0, none⟩) nf cap, .slice none 0 0]) ∧ Out 0 0 W w' ∧ W.heap.size ≤ b ∧ VB w' b l := by
  obtain ⟨W0, hW0⟩ : ∃ W0, W.alloc (.cells #[.int .i64 0, .int .i64 0, .slice none 0 0, .slice none 0 0, .slice none 0 0] 32) = W0 := ⟨_, rfl⟩
  obtain ⟨z, hz⟩ : ∃ z, W.heap.size = z := ⟨_, rfl⟩
  have o0 : Out 0 0 W W0 := hW0 ▸ (Out.refl 0 0 W).alloc _
  have bz : Bl W0 z #[.int .i64 0, .int .i64 0, .slice none 0 0, .slice none 0 0, .slice none 0 0] 32 := by rw [← hW0, ← hz]; exact Bl.new _ _ _
  have bn := hn.kept o0 (.inr (Nat.zero_le _))
  have c0 := bn.cell (i := 0) rfl
  have c1 := bn.cell (i := 1) rfl
  have c2 := bn.cell (i := 2) rfl
  have HN := hid_mk bn
  have HV := hid_mk (hv.quiet o0)
  have HZ := hid_mk (And.intro o0 (And.intro bz hz))
  have oC : Out 0 0 W0 W0.drew := (Out.refl 0 0 W0).drew
  clear hn hv o0 bz bn
  go_enter Tryz.func26, Tryz.ntmps26
  go_upto_region 1 with fail
  (try rw [hW0]); (try rw [hz])
  clear hW0 hz
  refine wp_region_held_drew (S := fun w' => w'.cell? ⟨n, 0, none⟩ = some (.int .i64 K) ∧ w'.cell? ⟨n, 1, none⟩ = some (.slice none 0 0) ∧ w'.cell? ⟨n, 2, none⟩ = some (.slice (some ⟨gf, off, none⟩) nf fc)) (by kernel_rfl) ?hS1 (fun hHeld => ?rest1)
  case hS1 => exact ⟨c0, c1, c2⟩
  refine tk 0 ?_
  refine tk 1 ?_
  refine tk 2 ?_
  refine tk 3 ?_
  refine tk 4 ?_
  refine tk 5 ?_
  refine tk 6 ?_
  refine tk 7 ?_
  refine tk 8 ?_
  refine tk 10 ?_
  refine tk 11 ?_
  refine tk 12 ?_
  refine tk 13 ?_
  refine wpAnyH_ready (rs := [9, 16]) (by kernel_rfl) (by simp) ?_
  refine AllReadyH.cons rfl (fun KK hK => ?_) ?_
  · simp only [xa, xb, xc]
    go_simp
    refine (clone_nil _).mono ?_
    rintro e w9 ⟨rfl, rfl⟩
    refine hK.out _ _ ?hS15 (fun hHeld2 => ?rest15)
    case hS15 => exact hHeld
    clear hK KK
    (try clear hHeld)
    have hHeld := hHeld2
    clear hHeld2
    (try simp only [Act.put, xa, xb, xc, xd, xe, xf])
    refine wpAnyH_ready (rs := [14, 16]) (by kernel_rfl) (by simp) ?_
    refine AllReadyH.cons rfl (fun KK hK => ?_) ?_
    · simp only [xa, xb, xc]
      go_simp
      refine (clone_own hl hn1 hn2 (HV.out.quiet oC)).mono ?_
      rintro e wC ⟨cb, ccap, rfl, oX, hcb, hvb⟩
      have HCB : Hid (W0.heap.size ≤ cb) := hid_mk (Nat.le_trans oC.size hcb)
      replace oC := oC.trans oX
      have HVB := hid_mk hvb
      clear hvb
      clear oX hcb
      refine hK.out _ _ ?hS16 (fun hHeld2 => ?rest16)
      case hS16 => exact ⟨oC.cell c0 (.inr (Nat.zero_le _)), oC.cell c1 (.inr (Nat.zero_le _)), oC.cell c2 (.inr (Nat.zero_le _))⟩
      clear hK KK
      (try clear hHeld)
      have hHeld := hHeld2
      clear hHeld2
      (try simp only [Act.put, xa, xb, xc, xd, xe, xf])
      refine tk 15 ?_
      refine wpAnyH_ready (rs := [16]) (by kernel_rfl) (by simp) ?_
      refine AllReadyH.cons rfl (fun KK hK => ?_) ?_
      · simp only [xa, xb, xc]
        go_simp
        obtain ⟨wA, hwA⟩ : ∃ wA, (wC.alloc (.cells #[.int .i64 0, .int .i64 0, .slice none 0 0, .slice none 0 0, .slice none 0 0] 32)) = wA := ⟨_, rfl⟩
        obtain ⟨ob, hob⟩ : ∃ ob, wC.heap.size = ob := ⟨_, rfl⟩
        rw [hwA, hob]
        have hsz := oC.size
        have oY : Out 0 0 wC wA := hwA ▸ (Out.refl 0 0 wC).alloc _
        replace oC := oC.trans oY
        replace HVB := hid_mk (HVB.out.quiet oY)
        clear oY
        have HOut : Hid (Bl wA ob #[.int .i64 0, .int .i64 0, .slice none 0 0, .slice none 0 0, .slice none 0 0] 32) := hid_mk (by rw [← hwA, ← hob]; exact Bl.new _ _ _)
        have HNob : Hid (n ≠ ob ∧ W0.heap.size ≤ ob) := hid_mk (by have := HN.out.lt; omega)
        clear hwA hob
        refine hK.out _ _ ?hS18 (fun hHeld2 => ?rest18)
        case hS18 => exact ⟨oC.cell c0 (.inr (Nat.zero_le _)), oC.cell c1 (.inr (Nat.zero_le _)), oC.cell c2 (.inr (Nat.zero_le _))⟩
        clear hK KK
        (try clear hHeld)
        have hHeld := hHeld2
        clear hHeld2
        (try simp only [Act.put, xa, xb, xc, xd, xe, xf])
        refine wpAnyH_ready (rs := [17]) (by kernel_rfl) (by simp) ?_
        refine AllReadyH.cons rfl (fun KK hK => ?_) ?_
        · simp only [xa, xb, xc]
          have f0 := HOut.out.cell (i := 0) rfl
          have g0 := HOut.out.frozen 0
          have f1 := HOut.out.cell (i := 1) rfl
          have g1 := HOut.out.frozen 1
          have f2 := HOut.out.cell (i := 2) rfl
          have g2 := HOut.out.frozen 2
          have f3 := HOut.out.cell (i := 3) rfl
          have g3 := HOut.out.frozen 3
          have f4 := HOut.out.cell (i := 4) rfl
          have g4 := HOut.out.frozen 4
          go_simp
          obtain ⟨wS, hwS⟩ : ∃ wS, ((((wA.setCell ⟨ob, 0, none⟩ (.int .i64 id)).setCell ⟨ob, 1, none⟩ (.int .i64 K)).setCell ⟨ob, 2, none⟩ (.slice none 0 0)).setCell ⟨ob, 3, none⟩ (.slice (some ⟨cb, 0, none⟩) nf ccap)).setCell ⟨ob, 4, none⟩ (.slice none 0 0) = wS := ⟨_, rfl⟩
          rw [hwS]
          have xS : Fx (fun j => j = ob) wA wS := hwS ▸ (((((Fx.refl (fun j => j = ob) wA).set (p := ⟨ob, 0, none⟩) (.inl rfl) _).set (p := ⟨ob, 1, none⟩) (.inl rfl) _).set (p := ⟨ob, 2, none⟩) (.inl rfl) _).set (p := ⟨ob, 3, none⟩) (.inl rfl) _).set (p := ⟨ob, 4, none⟩) (.inl rfl) _
          have bS : Bl wS ob #[.int .i64 id, .int .i64 K, .slice none 0 0, .slice (some ⟨cb, 0, none⟩) nf ccap, .slice none 0 0] 32 := hwS ▸ ((((HOut.out.set 0 _).set 1 _).set 2 _).set 3 _).set 4 _
          replace HVB := hid_mk (HVB.out.fx xS (HVB.out.ne HOut.out ne_NV))
          clear hwS f0 f1 f2 f3 f4 g0 g1 g2 g3 g4 HOut
          refine hK.out _ _ ?hS19 (fun hHeld2 => ?rest19)
          case hS19 => exact ⟨xS.cell (oC.cell c0 (.inr (Nat.zero_le _))) HNob.out.1, xS.cell (oC.cell c1 (.inr (Nat.zero_le _))) HNob.out.1, xS.cell (oC.cell c2 (.inr (Nat.zero_le _))) HNob.out.1⟩
          clear hK KK
          (try clear hHeld)
          have hHeld := hHeld2
          clear hHeld2
          (try simp only [Act.put, xa, xb, xc, xd, xe, xf])
          refine wpAnyH_done (by kernel_rfl) ?_ _
          have oS : Out 0 0 W0 wS := ((Fx.of_out (S := fun _ => False) oC).then xS (fun j h1 h2 => by have := HNob.out.2; omega)).out (fun _ _ q => q)
          have HE := hid_mk (And.intro oS (And.intro bS (And.intro HNob.out.2 (And.intro HVB.out HCB.out))))
          have e3 := (HN.out.kept oS (.inr (Nat.zero_le _))).cell (i := 3) rfl
          clear oC xS bS oS hHeld c0 c1 c2 HNob HVB HCB
          go_wp2_with fail
          refine (keysV_nil _).mono ?_
          rintro e w1 ⟨rfl, rfl⟩
          have HQ := hid_mk (sortedV_zero (Bl.new wS #[.map none] 92) 49)
          clear e3
          go_wp2_with fail
          refine HQ.out.mono ?_
          rintro e w2 ⟨rfl, o2⟩
          have o3 : Out 0 0 wS w2 := ((Out.refl 0 0 wS).alloc _).trans o2
          clear o2 HQ
          go_wp2_with fail
          refine wp_loop_once ?_
          obtain ⟨oS, bS, hob, hvb, hcb⟩ := HE.out
          obtain ⟨o0, bz, hz⟩ := HZ.out
          have b2 := bS.kept o3 (.inr (Nat.zero_le _))
          have z2 := (bz.kept oS (.inr (Nat.zero_le _))).kept o3 (.inr (Nat.zero_le _))
          have f0 := b2.cell (i := 0) rfl
          have f1 := b2.cell (i := 1) rfl
          have f2 := b2.cell (i := 2) rfl
          have f3 := b2.cell (i := 3) rfl
          have f4 := b2.cell (i := 4) rfl
          have g0 := z2.cell (i := 0) rfl
          have g1 := z2.cell (i := 1) rfl
          have g2 := z2.cell (i := 2) rfl
          have g3 := z2.cell (i := 3) rfl
          have g4 := z2.cell (i := 4) rfl
          have i0 := z2.frozen 0
          have i1 := z2.frozen 1
          have i2 := z2.frozen 2
          have i3 := z2.frozen 3
          have i4 := z2.frozen 4
          have HF := hid_mk (And.intro z2 (And.intro ((o0.trans oS).trans o3) (And.intro hz (And.intro (hvb.quiet o3) (Nat.le_trans o0.size hcb)))))
          clear oS bS hob o0 bz hz b2 z2 o3 HE hvb hcb
          go_wp2_with fail
          obtain ⟨z2, oF, hz, hvb, hcb⟩ := HF.out
          have xz := (((((Fx.refl (fun j => j = z) w2).set (p := ⟨z, 0, none⟩) (.inl rfl) (.int .i64 id)).set (p := ⟨z, 1, none⟩) (.inl rfl) (.int .i64 K)).set (p := ⟨z, 2, none⟩) (.inl rfl) (.slice none 0 0)).set (p := ⟨z, 3, none⟩) (.inl rfl) (.slice (some ⟨cb, 0, none⟩) nf ccap)).set (p := ⟨z, 4, none⟩) (.inl rfl) (.slice none 0 0)
          exact bodyPost_ret (results_cell1 Tryz.results26 rfl (load_nd (((((z2.set 0 _).set 1 _).set 2 _).set 3 _).set 4 _))) rfl ⟨_, _, rfl, ((((oF.setCell (p := ⟨z, 0, none⟩) (.inr (by show _ ≤ z; omega)) _).setCell (p := ⟨z, 1, none⟩) (.inr (by show _ ≤ z; omega)) _).setCell (p := ⟨z, 2, none⟩) (.inr (by show _ ≤ z; omega)) _).setCell (p := ⟨z, 3, none⟩) (.inr (by show _ ≤ z; omega)) _).setCell (p := ⟨z, 4, none⟩) (.inr (by show _ ≤ z; omega)) _, hcb, hvb.fx xz (hvb.ne z2 ne_NV)⟩
        · exact AllReadyH.nil
      · exact AllReadyH.nil
    · refine AllReadyH.cons rfl (fun KK hK => ?_) ?_
      · simp only [xa, xb, xc]
        go_simp
        obtain ⟨wA, hwA⟩ : ∃ wA, (W0.alloc (.cells #[.int .i64 0, .int .i64 0, .slice none 0 0, .slice none 0 0, .slice none 0 0] 32)).drew = wA := ⟨_, rfl⟩
        obtain ⟨ob, hob⟩ : ∃ ob, W0.heap.size = ob := ⟨_, rfl⟩
        rw [hwA, hob]
        clear oC
        have oC : Out 0 0 W0 wA := hwA ▸ ((Out.refl 0 0 W0).alloc _).drew
        have HOut : Hid (Bl wA ob #[.int .i64 0, .int .i64 0, .slice none 0 0, .slice none 0 0, .slice none 0 0] 32) := hid_mk (by rw [← hwA, ← hob]; exact (Bl.new _ _ _).kept ((Out.refl 0 0 _).drew) (.inr (Nat.zero_le _)))
        have HNob : Hid (n ≠ ob ∧ W0.heap.size ≤ ob) := hid_mk (by have := HN.out.lt; omega)
        clear hwA hob
        refine hK.out _ _ ?hS20 (fun hHeld2 => ?rest20)
        case hS20 => exact ⟨oC.cell c0 (.inr (Nat.zero_le _)), oC.cell c1 (.inr (Nat.zero_le _)), oC.cell c2 (.inr (Nat.zero_le _))⟩
        clear hK KK
        (try clear hHeld)
        have hHeld := hHeld2
        clear hHeld2
        (try simp only [Act.put, xa, xb, xc, xd, xe, xf])
        refine wpAnyH_ready (rs := [14]) (by kernel_rfl) (by simp) ?_
        refine AllReadyH.cons rfl (fun KK hK => ?_) ?_
        · simp only [xa, xb, xc]
          go_simp
          refine (clone_own hl hn1 hn2 (HV.out.quiet oC)).mono ?_
          rintro e wC ⟨cb, ccap, rfl, oX, hcb, hvb⟩
          have HCB : Hid (W0.heap.size ≤ cb) := hid_mk (Nat.le_trans oC.size hcb)
          replace oC := oC.trans oX
          have HVB := hid_mk hvb
          clear hvb
          replace HOut := hid_mk (HOut.out.kept oX (.inr (Nat.zero_le _)))
          clear oX hcb
          refine hK.out _ _ ?hS21 (fun hHeld2 => ?rest21)
          case hS21 => exact ⟨oC.cell c0 (.inr (Nat.zero_le _)), oC.cell c1 (.inr (Nat.zero_le _)), oC.cell c2 (.inr (Nat.zero_le _))⟩
          clear hK KK
          (try clear hHeld)
          have hHeld := hHeld2
          clear hHeld2
          (try simp only [Act.put, xa, xb, xc, xd, xe, xf])
          refine tk 15 ?_
          refine wpAnyH_ready (rs := [17]) (by kernel_rfl) (by simp) ?_
          refine AllReadyH.cons rfl (fun KK hK => ?_) ?_
          · simp only [xa, xb, xc]
            have f0 := HOut.out.cell (i := 0) rfl
            have g0 := HOut.out.frozen 0
            have f1 := HOut.out.cell (i := 1) rfl
            have g1 := HOut.out.frozen 1
            have f2 := HOut.out.cell (i := 2) rfl
            have g2 := HOut.out.frozen 2
            have f3 := HOut.out.cell (i := 3) rfl
            have g3 := HOut.out.frozen 3
            have f4 := HOut.out.cell (i := 4) rfl
            have g4 := HOut.out.frozen 4
            go_simp
            obtain ⟨wS, hwS⟩ : ∃ wS, ((((wC.setCell ⟨ob, 0, none⟩ (.int .i64 id)).setCell ⟨ob, 1, none⟩ (.int .i64 K)).setCell ⟨ob, 2, none⟩ (.slice none 0 0)).setCell ⟨ob, 3, none⟩ (.slice (some ⟨cb, 0, none⟩) nf ccap)).setCell ⟨ob, 4, none⟩ (.slice none 0 0) = wS := ⟨_, rfl⟩
            rw [hwS]
            have xS : Fx (fun j => j = ob) wC wS := hwS ▸ (((((Fx.refl (fun j => j = ob) wC).set (p := ⟨ob, 0, none⟩) (.inl rfl) _).set (p := ⟨ob, 1, none⟩) (.inl rfl) _).set (p := ⟨ob, 2, none⟩) (.inl rfl) _).set (p := ⟨ob, 3, none⟩) (.inl rfl) _).set (p := ⟨ob, 4, none⟩) (.inl rfl) _
            have bS : Bl wS ob #[.int .i64 id, .int .i64 K, .slice none 0 0, .slice (some ⟨cb, 0, none⟩) nf ccap, .slice none 0 0] 32 := hwS ▸ ((((HOut.out.set 0 _).set 1 _).set 2 _).set 3 _).set 4 _
            replace HVB := hid_mk (HVB.out.fx xS (HVB.out.ne HOut.out ne_NV))
            clear hwS f0 f1 f2 f3 f4 g0 g1 g2 g3 g4 HOut
            refine hK.out _ _ ?hS23 (fun hHeld2 => ?rest23)
            case hS23 => exact ⟨xS.cell (oC.cell c0 (.inr (Nat.zero_le _))) HNob.out.1, xS.cell (oC.cell c1 (.inr (Nat.zero_le _))) HNob.out.1, xS.cell (oC.cell c2 (.inr (Nat.zero_le _))) HNob.out.1⟩
            clear hK KK
            (try clear hHeld)
            have hHeld := hHeld2
            clear hHeld2
            (try simp only [Act.put, xa, xb, xc, xd, xe, xf])
            refine wpAnyH_done (by kernel_rfl) ?_ _
            have oS : Out 0 0 W0 wS := ((Fx.of_out (S := fun _ => False) oC).then xS (fun j h1 h2 => by have := HNob.out.2; omega)).out (fun _ _ q => q)
            have HE := hid_mk (And.intro oS (And.intro bS (And.intro HNob.out.2 (And.intro HVB.out HCB.out))))
            have e3 := (HN.out.kept oS (.inr (Nat.zero_le _))).cell (i := 3) rfl
            clear oC xS bS oS hHeld c0 c1 c2 HNob HVB HCB
            go_wp2_with fail
            refine (keysV_nil _).mono ?_
            rintro e w1 ⟨rfl, rfl⟩
            have HQ := hid_mk (sortedV_zero (Bl.new wS #[.map none] 92) 49)
            clear e3
            go_wp2_with fail
            refine HQ.out.mono ?_
            rintro e w2 ⟨rfl, o2⟩
            have o3 : Out 0 0 wS w2 := ((Out.refl 0 0 wS).alloc _).trans o2
            clear o2 HQ
            go_wp2_with fail
            refine wp_loop_once ?_
            obtain ⟨oS, bS, hob, hvb, hcb⟩ := HE.out
            obtain ⟨o0, bz, hz⟩ := HZ.out
            have b2 := bS.kept o3 (.inr (Nat.zero_le _))
            have z2 := (bz.kept oS (.inr (Nat.zero_le _))).kept o3 (.inr (Nat.zero_le _))
            have f0 := b2.cell (i := 0) rfl
            have f1 := b2.cell (i := 1) rfl
            have f2 := b2.cell (i := 2) rfl
            have f3 := b2.cell (i := 3) rfl
            have f4 := b2.cell (i := 4) rfl
            have g0 := z2.cell (i := 0) rfl
            have g1 := z2.cell (i := 1) rfl
            have g2 := z2.cell (i := 2) rfl
            have g3 := z2.cell (i := 3) rfl
            have g4 := z2.cell (i := 4) rfl
            have i0 := z2.frozen 0
            have i1 := z2.frozen 1
            have i2 := z2.frozen 2
            have i3 := z2.frozen 3
            have i4 := z2.frozen 4
            have HF := hid_mk (And.intro z2 (And.intro ((o0.trans oS).trans o3) (And.intro hz (And.intro (hvb.quiet o3) (Nat.le_trans o0.size hcb)))))
            clear oS bS hob o0 bz hz b2 z2 o3 HE hvb hcb
            go_wp2_with fail
            obtain ⟨z2, oF, hz, hvb, hcb⟩ := HF.out
            have xz := (((((Fx.refl (fun j => j = z) w2).set (p := ⟨z, 0, none⟩) (.inl rfl) (.int .i64 id)).set (p := ⟨z, 1, none⟩) (.inl rfl) (.int .i64 K)).set (p := ⟨z, 2, none⟩) (.inl rfl) (.slice none 0 0)).set (p := ⟨z, 3, none⟩) (.inl rfl) (.slice (some ⟨cb, 0, none⟩) nf ccap)).set (p := ⟨z, 4, none⟩) (.inl rfl) (.slice none 0 0)
            exact bodyPost_ret (results_cell1 Tryz.results26 rfl (load_nd (((((z2.set 0 _).set 1 _).set 2 _).set 3 _).set 4 _))) rfl ⟨_, _, rfl, ((((oF.setCell (p := ⟨z, 0, none⟩) (.inr (by show _ ≤ z; omega)) _).setCell (p := ⟨z, 1, none⟩) (.inr (by show _ ≤ z; omega)) _).setCell (p := ⟨z, 2, none⟩) (.inr (by show _ ≤ z; omega)) _).setCell (p := ⟨z, 3, none⟩) (.inr (by show _ ≤ z; omega)) _).setCell (p := ⟨z, 4, none⟩) (.inr (by show _ ≤ z; omega)) _, hcb, hvb.fx xz (hvb.ne z2 ne_NV)⟩
          · exact AllReadyH.nil
        · exact AllReadyH.nil
      · exact AllReadyH.nil
  · refine AllReadyH.cons rfl (fun KK hK => ?_) ?_
    · simp only [xa, xb, xc]
      go_simp
      obtain ⟨wA, hwA⟩ : ∃ wA, (W0.alloc (.cells #[.int .i64 0, .int .i64 0, .slice none 0 0, .slice none 0 0, .slice none 0 0] 32)).drew = wA := ⟨_, rfl⟩
      obtain ⟨ob, hob⟩ : ∃ ob, W0.heap.size = ob := ⟨_, rfl⟩
      rw [hwA, hob]
      clear oC
      have oC : Out 0 0 W0 wA := hwA ▸ ((Out.refl 0 0 W0).alloc _).drew
      have HOut : Hid (Bl wA ob #[.int .i64 0, .int .i64 0, .slice none 0 0, .slice none 0 0, .slice none 0 0] 32) := hid_mk (by rw [← hwA, ← hob]; exact (Bl.new _ _ _).kept ((Out.refl 0 0 _).drew) (.inr (Nat.zero_le _)))
      have HNob : Hid (n ≠ ob ∧ W0.heap.size ≤ ob) := hid_mk (by have := HN.out.lt; omega)
      clear hwA hob
      refine hK.out _ _ ?hS24 (fun hHeld2 => ?rest24)
      case hS24 => exact ⟨oC.cell c0 (.inr (Nat.zero_le _)), oC.cell c1 (.inr (Nat.zero_le _)), oC.cell c2 (.inr (Nat.zero_le _))⟩
      clear hK KK
      (try clear hHeld)
      have hHeld := hHeld2
      clear hHeld2
      (try simp only [Act.put, xa, xb, xc, xd, xe, xf])
      refine wpAnyH_ready (rs := [9]) (by kernel_rfl) (by simp) ?_
      refine AllReadyH.cons rfl (fun KK hK => ?_) ?_
      · simp only [xa, xb, xc]
        go_simp
        refine (clone_nil _).mono ?_
        rintro e w9 ⟨rfl, rfl⟩
        refine hK.out _ _ ?hS25 (fun hHeld2 => ?rest25)
        case hS25 => exact hHeld
        clear hK KK
        (try clear hHeld)
        have hHeld := hHeld2
        clear hHeld2
        (try simp only [Act.put, xa, xb, xc, xd, xe, xf])
        refine wpAnyH_ready (rs := [14]) (by kernel_rfl) (by simp) ?_
        refine AllReadyH.cons rfl (fun KK hK => ?_) ?_
        · simp only [xa, xb, xc]
          go_simp
          refine (clone_own hl hn1 hn2 (HV.out.quiet oC)).mono ?_
          rintro e wC ⟨cb, ccap, rfl, oX, hcb, hvb⟩
          have HCB : Hid (W0.heap.size ≤ cb) := hid_mk (Nat.le_trans oC.size hcb)
          replace oC := oC.trans oX
          have HVB := hid_mk hvb
          clear hvb
          replace HOut := hid_mk (HOut.out.kept oX (.inr (Nat.zero_le _)))
          clear oX hcb
          refine hK.out _ _ ?hS26 (fun hHeld2 => ?rest26)
          case hS26 => exact ⟨oC.cell c0 (.inr (Nat.zero_le _)), oC.cell c1 (.inr (Nat.zero_le _)), oC.cell c2 (.inr (Nat.zero_le _))⟩
          clear hK KK
          (try clear hHeld)
          have hHeld := hHeld2
          clear hHeld2
          (try simp only [Act.put, xa, xb, xc, xd, xe, xf])
          refine tk 15 ?_
          refine wpAnyH_ready (rs := [17]) (by kernel_rfl) (by simp) ?_
          refine AllReadyH.cons rfl (fun KK hK => ?_) ?_
          · simp only [xa, xb, xc]
            have f0 := HOut.out.cell (i := 0) rfl
            have g0 := HOut.out.frozen 0
            have f1 := HOut.out.cell (i := 1) rfl
            have g1 := HOut.out.frozen 1
            have f2 := HOut.out.cell (i := 2) rfl
            have g2 := HOut.out.frozen 2
            have f3 := HOut.out.cell (i := 3) rfl
            have g3 := HOut.out.frozen 3
            have f4 := HOut.out.cell (i := 4) rfl
            have g4 := HOut.out.frozen 4
            go_simp
            obtain ⟨wS, hwS⟩ : ∃ wS, ((((wC.setCell ⟨ob, 0, none⟩ (.int .i64 id)).setCell ⟨ob, 1, none⟩ (.int .i64 K)).setCell ⟨ob, 2, none⟩ (.slice none 0 0)).setCell ⟨ob, 3, none⟩ (.slice (some ⟨cb, 0, none⟩) nf ccap)).setCell ⟨ob, 4, none⟩ (.slice none 0 0) = wS := ⟨_, rfl⟩
            rw [hwS]
            have xS : Fx (fun j => j = ob) wC wS := hwS ▸ (((((Fx.refl (fun j => j = ob) wC).set (p := ⟨ob, 0, none⟩) (.inl rfl) _).set (p := ⟨ob, 1, none⟩) (.inl rfl) _).set (p := ⟨ob, 2, none⟩) (.inl rfl) _).set (p := ⟨ob, 3, none⟩) (.inl rfl) _).set (p := ⟨ob, 4, none⟩) (.inl rfl) _
            have bS : Bl wS ob #[.int .i64 id, .int .i64 K, .slice none 0 0, .slice (some ⟨cb, 0, none⟩) nf ccap, .slice none 0 0] 32 := hwS ▸ ((((HOut.out.set 0 _).set 1 _).set 2 _).set 3 _).set 4 _
            replace HVB := hid_mk (HVB.out.fx xS (HVB.out.ne HOut.out ne_NV))
            clear hwS f0 f1 f2 f3 f4 g0 g1 g2 g3 g4 HOut
            refine hK.out _ _ ?hS28 (fun hHeld2 => ?rest28)
            case hS28 => exact ⟨xS.cell (oC.cell c0 (.inr (Nat.zero_le _))) HNob.out.1, xS.cell (oC.cell c1 (.inr (Nat.zero_le _))) HNob.out.1, xS.cell (oC.cell c2 (.inr (Nat.zero_le _))) HNob.out.1⟩
            clear hK KK
            (try clear hHeld)
            have hHeld := hHeld2
            clear hHeld2
            (try simp only [Act.put, xa, xb, xc, xd, xe, xf])
            refine wpAnyH_done (by kernel_rfl) ?_ _
            have oS : Out 0 0 W0 wS := ((Fx.of_out (S := fun _ => False) oC).then xS (fun j h1 h2 => by have := HNob.out.2; omega)).out (fun _ _ q => q)
            have HE := hid_mk (And.intro oS (And.intro bS (And.intro HNob.out.2 (And.intro HVB.out HCB.out))))
            have e3 := (HN.out.kept oS (.inr (Nat.zero_le _))).cell (i := 3) rfl
            clear oC xS bS oS hHeld c0 c1 c2 HNob HVB HCB
            go_wp2_with fail
            refine (keysV_nil _).mono ?_
            rintro e w1 ⟨rfl, rfl⟩
            have HQ := hid_mk (sortedV_zero (Bl.new wS #[.map none] 92) 49)
            clear e3
            go_wp2_with fail
            refine HQ.out.mono ?_
            rintro e w2 ⟨rfl, o2⟩
            have o3 : Out 0 0 wS w2 := ((Out.refl 0 0 wS).alloc _).trans o2
            clear o2 HQ
            go_wp2_with fail
            refine wp_loop_once ?_
            obtain ⟨oS, bS, hob, hvb, hcb⟩ := HE.out
            obtain ⟨o0, bz, hz⟩ := HZ.out
            have b2 := bS.kept o3 (.inr (Nat.zero_le _))
            have z2 := (bz.kept oS (.inr (Nat.zero_le _))).kept o3 (.inr (Nat.zero_le _))
            have f0 := b2.cell (i := 0) rfl
            have f1 := b2.cell (i := 1) rfl
            have f2 := b2.cell (i := 2) rfl
            have f3 := b2.cell (i := 3) rfl
            have f4 := b2.cell (i := 4) rfl
            have g0 := z2.cell (i := 0) rfl
            have g1 := z2.cell (i := 1) rfl
            have g2 := z2.cell (i := 2) rfl
            have g3 := z2.cell (i := 3) rfl
            have g4 := z2.cell (i := 4) rfl
            have i0 := z2.frozen 0
            have i1 := z2.frozen 1
            have i2 := z2.frozen 2
            have i3 := z2.frozen 3
            have i4 := z2.frozen 4
            have HF := hid_mk (And.intro z2 (And.intro ((o0.trans oS).trans o3) (And.intro hz (And.intro (hvb.quiet o3) (Nat.le_trans o0.size hcb)))))
            clear oS bS hob o0 bz hz b2 z2 o3 HE hvb hcb
            go_wp2_with fail
            obtain ⟨z2, oF, hz, hvb, hcb⟩ := HF.out
            have xz := (((((Fx.refl (fun j => j = z) w2).set (p := ⟨z, 0, none⟩) (.inl rfl) (.int .i64 id)).set (p := ⟨z, 1, none⟩) (.inl rfl) (.int .i64 K)).set (p := ⟨z, 2, none⟩) (.inl rfl) (.slice none 0 0)).set (p := ⟨z, 3, none⟩) (.inl rfl) (.slice (some ⟨cb, 0, none⟩) nf ccap)).set (p := ⟨z, 4, none⟩) (.inl rfl) (.slice none 0 0)
            exact bodyPost_ret (results_cell1 Tryz.results26 rfl (load_nd (((((z2.set 0 _).set 1 _).set 2 _).set 3 _).set 4 _))) rfl ⟨_, _, rfl, ((((oF.setCell (p := ⟨z, 0, none⟩) (.inr (by show _ ≤ z; omega)) _).setCell (p := ⟨z, 1, none⟩) (.inr (by show _ ≤ z; omega)) _).setCell (p := ⟨z, 2, none⟩) (.inr (by show _ ≤ z; omega)) _).setCell (p := ⟨z, 3, none⟩) (.inr (by show _ ≤ z; omega)) _).setCell (p := ⟨z, 4, none⟩) (.inr (by show _ ≤ z; omega)) _, hcb, hvb.fx xz (hvb.ne z2 ne_NV)⟩
          · exact AllReadyH.nil
        · exact AllReadyH.nil
      · exact AllReadyH.nil
    · exact AllReadyH.nil
end Go.Proofs.YtocncffplcfpbaaGreatDoor
namespace Go.Proofs.YtocncffplcfpbaaGreatDoor
open Go.RowKit Go.MapKept
set_option linter.unusedVariables false
set_option linter.unusedSimpArgs false

/-- a map with so many keys -/
theorem mp_len {w : World} {m n : Nat} {f : Int → Option Value} (h : MpAt w m f) (hd : ∀ y, f y ≠ none ↔ 1 ≤ y ∧ y ≤ (n : Int)) : ∃ es clock, w.heap[m]? = some (.map es clock) ∧ es.size = n := by
  obtain ⟨es, clock, hb, hs, hk, hm⟩ := h
  refine ⟨es, clock, hb, ?_⟩
  have hp := ((stamped_iff es clock).1 hs).2.2
  have hin : ∀ x ∈ es.toList, x.key = .int .i64 (intOf x.key) := fun x hx => by
    obtain ⟨a, ha⟩ := hk x hx
    rw [ha]; rfl
  have := all_len (f := f) (n := n) (ks := es.toList.map fun x => intOf x.key) ⟨by
    unfold List.Nodup
    rw [List.pairwise_map]
    refine List.Pairwise.imp_of_mem (fun {x y} hx hy hxy e => hxy ?_) hp
    rw [hin x hx, hin y hy, e], fun a ha => by
      rw [List.mem_map] at ha
      obtain ⟨x, hx, rfl⟩ := ha
      rw [(hm _ x.val).2 ⟨x, hx, hin x hx, rfl⟩]
      simp⟩ (fun a ha => by
      obtain ⟨v, hv⟩ := Option.ne_none_iff_exists'.1 ha
      obtain ⟨x, hx, hxk, _⟩ := (hm a v).1 hv
      rw [List.mem_map]
      refine ⟨x, hx, ?_⟩
      rw [hxk]; rfl) hd
  simpa using this
theorem mlen_n {w : World} {m n : Nat} {es : Array MapEntry} {clock : Nat} (hb : w.heap[m]? = some (.map es clock)) (hes : es.size = n) : (Builtin.len_ #[57] 3 #[.map (some m)]).run Tryz.prog w = .ok (.int .i64 (n : Int)) w := by
  simp [Builtin.len_, run_underlying Tryz.underlying57, MapKept.run_getObj_map hb, hes, goInt, Result.andThen]
/-- the zeros of so many nodes -/
def MC (n : Nat) : Array Value := madeCells (Value.agg #[.int .i64 0, .int .i64 0, .slice none 0 0, .slice none 0 0, .slice none 0 0]).cells (n * 5)
theorem ms_n5 {n : Nat} (hn : n ≤ 400000) (w : World) : (Instr.makeSlice 23 (.int .i64 0) (.int .i64 (n : Int))).run Tryz.prog w = .ok (.slice (some ⟨w.heap.size, 0, none⟩) 0 n) (w.alloc (.cells (MC n) 32)) := by
  obtain ⟨i0, hi0, hz0, hz1, hz2⟩ := info_p info_nd
  have := run_make (P := Tryz.prog) w 23 32 i0 _ Tryz.underlying23 hi0 hz0 .i64 .i64 0 (n : Int) (by omega) (by omega) (by rw [hz2]; omega) (by omega)
  rw [hz1] at this
  simpa [MC] using this
/-- the sorted list of 1, 2, .. n -/
theorem up_by {l : List Int} (hs : l.Pairwise (fun x y => x ≤ y)) (hn : l.Nodup) : ∀ (d i : Nat) (x y : Int), l[i]? = some x → l[i + d]? = some y → x + d ≤ y
  | 0, i, x, y, h1, h2 => by rw [Nat.add_zero, h1] at h2; cases h2; simp
  | d + 1, i, x, y, h1, h2 => by
    have hlt : i + (d + 1) < l.length := (List.getElem?_eq_some_iff.1 h2).1
    obtain ⟨z, hz⟩ : ∃ z, l[i + d]? = some z := ⟨_, List.getElem?_eq_getElem (by omega)⟩
    have := up_by hs hn d i x z h1 hz
    obtain ⟨g1, e1⟩ := List.getElem?_eq_some_iff.1 hz
    obtain ⟨g2, e2⟩ := List.getElem?_eq_some_iff.1 h2
    have h3 := (List.pairwise_iff_getElem.1 hs) (i + d) (i + (d + 1)) g1 g2 (by omega)
    have h4 : l[i + d] ≠ l[i + (d + 1)] := (List.pairwise_iff_getElem.1 hn) (i + d) (i + (d + 1)) g1 g2 (by omega)
    rw [e1, e2] at h3 h4
    omega
theorem sorted_at {l : List Int} {n : Nat} (hs : l.Pairwise (fun x y => x ≤ y)) (hn : l.Nodup) (hm : ∀ y, y ∈ l ↔ 1 ≤ y ∧ y ≤ (n : Int)) (hl : l.length = n) {i : Nat} (hi : i < n) : l[i]? = some ((i + 1 : Nat) : Int) := by
  obtain ⟨x, hx⟩ : ∃ x, l[i]? = some x := ⟨_, List.getElem?_eq_getElem (by omega)⟩
  obtain ⟨a, ha⟩ : ∃ x, l[0]? = some x := ⟨_, List.getElem?_eq_getElem (by omega)⟩
  obtain ⟨z, hz⟩ : ∃ x, l[n - 1]? = some x := ⟨_, List.getElem?_eq_getElem (by omega)⟩
  have h1 := up_by hs hn i 0 a x ha (by rwa [Nat.zero_add])
  have h2 := up_by hs hn (n - 1 - i) i x z hx (by rwa [show i + (n - 1 - i) = n - 1 by omega])
  have h3 := (hm a).1 (List.mem_of_getElem? ha)
  have h4 := (hm z).1 (List.mem_of_getElem? hz)
  rw [hx]
  congr 1
  omega
/-- the cells of the first k nodes that were told -/
def nCs (K : Nat → Nat) (nf tb tc : Nat → Nat) (k : Nat) : List Value := (List.range k).flatMap fun i => [.int .i64 ((i + 1 : Nat) : Int), .int .i64 (K i : Int), .slice none 0 0, .slice (some ⟨tb i, 0, none⟩) (nf i) (tc i), .slice none 0 0]
theorem nCs_len (K : Nat → Nat) (nf tb tc : Nat → Nat) (k : Nat) : (nCs K nf tb tc k).length = k * 5 := by
  unfold nCs
  induction k with
  | zero => rfl
  | succ k ih => rw [List.range_succ, List.flatMap_append, List.length_append, ih]; simp; omega
theorem nCs_up (K : Nat → Nat) (nf tb tc : Nat → Nat) (k b c : Nat) : nCs K nf (fun i => if i = k then b else tb i) (fun i => if i = k then c else tc i) (k + 1) = nCs K nf tb tc k ++ [.int .i64 ((k + 1 : Nat) : Int), .int .i64 (K k : Int), .slice none 0 0, .slice (some ⟨b, 0, none⟩) (nf k) c, .slice none 0 0] := by
  unfold nCs
  rw [List.range_succ, List.flatMap_append]
  have : ∀ f g : Nat → List Value, (∀ i, i < k → f i = g i) → (List.range k).flatMap f = (List.range k).flatMap g := by
    intro f g h
    rw [List.flatMap_def, List.flatMap_def]
    congr 1
    exact List.map_congr_left fun i hi => h i (by rwa [List.mem_range] at hi)
  rw [this _ (fun i => [.int .i64 ((i + 1 : Nat) : Int), .int .i64 (K i : Int), .slice none 0 0, .slice (some ⟨tb i, 0, none⟩) (nf i) (tc i), .slice none 0 0]) (fun i hi => by simp only []; rw [if_neg (by omega), if_neg (by omega)])]
  simp
theorem nCs_at {K : Nat → Nat} {nf tb tc : Nat → Nat} {k i : Nat} (hi : i < k) : (nCs K nf tb tc k)[i * 5]? = some (.int .i64 ((i + 1 : Nat) : Int)) ∧ (nCs K nf tb tc k)[i * 5 + 1]? = some (.int .i64 (K i : Int)) ∧ (nCs K nf tb tc k)[i * 5 + 2]? = some (.slice none 0 0) ∧ (nCs K nf tb tc k)[i * 5 + 3]? = some (.slice (some ⟨tb i, 0, none⟩) (nf i) (tc i)) ∧ (nCs K nf tb tc k)[i * 5 + 4]? = some (.slice none 0 0) := by
  induction k with
  | zero => omega
  | succ k ih =>
    have hl := nCs_len K nf tb tc k
    have e : nCs K nf tb tc (k + 1) = nCs K nf tb tc k ++ [.int .i64 ((k + 1 : Nat) : Int), .int .i64 (K k : Int), .slice none 0 0, .slice (some ⟨tb k, 0, none⟩) (nf k) (tc k), .slice none 0 0] := by
      unfold nCs
      rw [List.range_succ, List.flatMap_append]
      simp
    rw [e]
    by_cases hk : i = k
    · subst hk
      rw [List.getElem?_append_right (by omega), List.getElem?_append_right (by omega), List.getElem?_append_right (by omega), List.getElem?_append_right (by omega), List.getElem?_append_right (by omega), hl]
      simp only [Nat.sub_self, show i * 5 + 1 - i * 5 = 1 by omega, show i * 5 + 2 - i * 5 = 2 by omega, show i * 5 + 3 - i * 5 = 3 by omega, show i * 5 + 4 - i * 5 = 4 by omega]
      exact ⟨rfl, rfl, rfl, rfl, rfl⟩
    · rw [List.getElem?_append_left (by omega), List.getElem?_append_left (by omega), List.getElem?_append_left (by omega), List.getElem?_append_left (by omega), List.getElem?_append_left (by omega)]
      exact ih (by omega)
theorem nd_one (i k : Int) (a : Option Addr) (n c : Nat) : ∀ u ∈ [Value.int .i64 i, .int .i64 k, .slice none 0 0, .slice a n c, .slice none 0 0], u.oneCell' = true := by
  intro u hu; simp at hu; rcases hu with rfl | rfl | rfl | rfl | rfl <;> rfl
end Go.Proofs.YtocncffplcfpbaaGreatDoor
