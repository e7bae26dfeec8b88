/- graph: (*node).tell -/
import Derived.Test.YtocncffplcfpbaaGreatDoorGrp
namespace Go.Proofs.YtocncffplcfpbaaGreatDoor
open Go.RowKit Go.MapKept
set_option linter.unusedVariables false
set_option linter.unusedSimpArgs false

theorem infoN (i k : Int) (r f e : Value) : (Tryz.prog.info? 32).map (·.size) = some (#[Value.int .i64 i, Value.int .i64 k, r, f, e] : Array Value).size := by kernel_rfl
theorem load_nd {w : World} {g : Nat} {i k : Int} {r f e : Value} (hg : Bl w g #[.int .i64 i, .int .i64 k, r, f, e] 32) : (loadVar 32 ⟨g, 0, none⟩).run Tryz.prog w = .ok (.agg #[.int .i64 i, .int .i64 k, r, f, e]) w :=
  run_loadVar_row w g 32 32 _ (0, 0) _ hg Tryz.underlying32 rfl (infoN i k r f e)
set_option maxRecDepth 100000 in
set_option maxHeartbeats 8000000 in
theorem ntell_at {W : World} {n gf off nf fc : Nat} {K id : Int} {l : List (Int × Int)} (hn : Bl W n (ndc K (.slice none 0 0) (.slice (some ⟨gf, off, none⟩) nf fc)) 94) (hl : l.length = nf) (hn1 : 0 < nf) (hn2 : nf ≤ 1000000) (hv : VsAt W (some ⟨gf, off, none⟩) l) :
    Calls Tryz.prog 26 #[.pointer (some ⟨n, 0, none⟩), .int .i64 id] W fun e w' => ∃ b cap, e = .returned (.agg #[.int .i64 id, .int .i64 K, .slice none 0 0, .slice (some ⟨b, 0, none⟩) nf cap, .slice none 0 0]) ∧ Out 0 0 W w' := by
  obtain ⟨W0, hW0⟩ : ∃ W0, W.alloc (.cells #[.int .i64 0, .int .i64 0, .slice none 0 0, .slice none 0 0, .slice none 0 0] 32) = W0 := ⟨_, rfl⟩
  obtain ⟨z, hz⟩ : ∃ z, W.heap.size = z := ⟨_, rfl⟩
  have o0 : Out 0 0 W W0 := hW0 ▸ (Out.refl 0 0 W).alloc _
  have bz : Bl W0 z #[.int .i64 0, .int .i64 0, .slice none 0 0, .slice none 0 0, .slice none 0 0] 32 := by rw [← hW0, ← hz]; exact Bl.new _ _ _
  have bn := hn.kept o0 (.inr (Nat.zero_le _))
  have c0 := bn.cell (i := 0) rfl
  have c1 := bn.cell (i := 1) rfl
  have c2 := bn.cell (i := 2) rfl
  have HN := hid_mk bn
  have HV := hid_mk (hv.quiet o0)
  have HZ := hid_mk (And.intro o0 (And.intro bz hz))
  have oC : Out 0 0 W0 W0.drew := (Out.refl 0 0 W0).drew
  clear hn hv o0 bz bn
  go_enter Tryz.func26, Tryz.ntmps26
  go_upto_region 1 with fail
  (try rw [hW0]); (try rw [hz])
  clear hW0 hz
  refine wp_region_held_drew (S := fun w' => w'.cell? ⟨n, 0, none⟩ = some (.int .i64 K) ∧ w'.cell? ⟨n, 1, none⟩ = some (.slice none 0 0) ∧ w'.cell? ⟨n, 2, none⟩ = some (.slice (some ⟨gf, off, none⟩) nf fc)) (by kernel_rfl) ?hS1 (fun hHeld => ?rest1)
  case hS1 => exact ⟨c0, c1, c2⟩
  refine tk 0 ?_
  refine tk 1 ?_
  refine tk 2 ?_
  refine tk 3 ?_
  refine tk 4 ?_
  refine tk 5 ?_
  refine tk 6 ?_
  refine tk 7 ?_
  refine tk 8 ?_
  refine tk 10 ?_
  refine tk 11 ?_
  refine tk 12 ?_
  refine tk 13 ?_
  refine wpAnyH_ready (rs := [9, 16]) (by kernel_rfl) (by simp) ?_
  refine AllReadyH.cons rfl (fun KK hK => ?_) ?_
  · simp only [xa, xb, xc]
    go_simp
    refine (clone_nil _).mono ?_
    rintro e w9 ⟨rfl, rfl⟩
    refine hK.out _ _ ?hS15 (fun hHeld2 => ?rest15)
    case hS15 => exact hHeld
    clear hK KK
    (try clear hHeld)
    have hHeld := hHeld2
    clear hHeld2
    (try simp only [Act.put, xa, xb, xc, xd, xe, xf])
    refine wpAnyH_ready (rs := [14, 16]) (by kernel_rfl) (by simp) ?_
    refine AllReadyH.cons rfl (fun KK hK => ?_) ?_
    · simp only [xa, xb, xc]
      go_simp
      refine (clone_vs hl hn1 hn2 (HV.out.quiet oC)).mono ?_
      rintro e wC ⟨cb, ccap, rfl, oX, hcb⟩
      replace oC := oC.trans oX
      clear oX hcb
      refine hK.out _ _ ?hS16 (fun hHeld2 => ?rest16)
      case hS16 => exact ⟨oC.cell c0 (.inr (Nat.zero_le _)), oC.cell c1 (.inr (Nat.zero_le _)), oC.cell c2 (.inr (Nat.zero_le _))⟩
      clear hK KK
      (try clear hHeld)
      have hHeld := hHeld2
      clear hHeld2
      (try simp only [Act.put, xa, xb, xc, xd, xe, xf])
      refine tk 15 ?_
      refine wpAnyH_ready (rs := [16]) (by kernel_rfl) (by simp) ?_
      refine AllReadyH.cons rfl (fun KK hK => ?_) ?_
      · simp only [xa, xb, xc]
        go_simp
        obtain ⟨wA, hwA⟩ : ∃ wA, (wC.alloc (.cells #[.int .i64 0, .int .i64 0, .slice none 0 0, .slice none 0 0, .slice none 0 0] 32)) = wA := ⟨_, rfl⟩
        obtain ⟨ob, hob⟩ : ∃ ob, wC.heap.size = ob := ⟨_, rfl⟩
        rw [hwA, hob]
        have hsz := oC.size
        have oY : Out 0 0 wC wA := hwA ▸ (Out.refl 0 0 wC).alloc _
        replace oC := oC.trans oY
        clear oY
        have HOut : Hid (Bl wA ob #[.int .i64 0, .int .i64 0, .slice none 0 0, .slice none 0 0, .slice none 0 0] 32) := hid_mk (by rw [← hwA, ← hob]; exact Bl.new _ _ _)
        have HNob : Hid (n ≠ ob ∧ W0.heap.size ≤ ob) := hid_mk (by have := HN.out.lt; omega)
        clear hwA hob
        refine hK.out _ _ ?hS18 (fun hHeld2 => ?rest18)
        case hS18 => exact ⟨oC.cell c0 (.inr (Nat.zero_le _)), oC.cell c1 (.inr (Nat.zero_le _)), oC.cell c2 (.inr (Nat.zero_le _))⟩
        clear hK KK
        (try clear hHeld)
        have hHeld := hHeld2
        clear hHeld2
        (try simp only [Act.put, xa, xb, xc, xd, xe, xf])
        refine wpAnyH_ready (rs := [17]) (by kernel_rfl) (by simp) ?_
        refine AllReadyH.cons rfl (fun KK hK => ?_) ?_
        · simp only [xa, xb, xc]
          have f0 := HOut.out.cell (i := 0) rfl
          have g0 := HOut.out.frozen 0
          have f1 := HOut.out.cell (i := 1) rfl
          have g1 := HOut.out.frozen 1
          have f2 := HOut.out.cell (i := 2) rfl
          have g2 := HOut.out.frozen 2
          have f3 := HOut.out.cell (i := 3) rfl
          have g3 := HOut.out.frozen 3
          have f4 := HOut.out.cell (i := 4) rfl
          have g4 := HOut.out.frozen 4
          go_simp
          obtain ⟨wS, hwS⟩ : ∃ wS, ((((wA.setCell ⟨ob, 0, none⟩ (.int .i64 id)).setCell ⟨ob, 1, none⟩ (.int .i64 K)).setCell ⟨ob, 2, none⟩ (.slice none 0 0)).setCell ⟨ob, 3, none⟩ (.slice (some ⟨cb, 0, none⟩) nf ccap)).setCell ⟨ob, 4, none⟩ (.slice none 0 0) = wS := ⟨_, rfl⟩
          rw [hwS]
          have xS : Fx (fun j => j = ob) wA wS := hwS ▸ (((((Fx.refl (fun j => j = ob) wA).set (p := ⟨ob, 0, none⟩) (.inl rfl) _).set (p := ⟨ob, 1, none⟩) (.inl rfl) _).set (p := ⟨ob, 2, none⟩) (.inl rfl) _).set (p := ⟨ob, 3, none⟩) (.inl rfl) _).set (p := ⟨ob, 4, none⟩) (.inl rfl) _
          have bS : Bl wS ob #[.int .i64 id, .int .i64 K, .slice none 0 0, .slice (some ⟨cb, 0, none⟩) nf ccap, .slice none 0 0] 32 := hwS ▸ ((((HOut.out.set 0 _).set 1 _).set 2 _).set 3 _).set 4 _
          clear hwS f0 f1 f2 f3 f4 g0 g1 g2 g3 g4 HOut
          refine hK.out _ _ ?hS19 (fun hHeld2 => ?rest19)
          case hS19 => exact ⟨xS.cell (oC.cell c0 (.inr (Nat.zero_le _))) HNob.out.1, xS.cell (oC.cell c1 (.inr (Nat.zero_le _))) HNob.out.1, xS.cell (oC.cell c2 (.inr (Nat.zero_le _))) HNob.out.1⟩
          clear hK KK
          (try clear hHeld)
          have hHeld := hHeld2
          clear hHeld2
          (try simp only [Act.put, xa, xb, xc, xd, xe, xf])
          refine wpAnyH_done (by kernel_rfl) ?_ _
          have oS : Out 0 0 W0 wS := ((Fx.of_out (S := fun _ => False) oC).then xS (fun j h1 h2 => by have := HNob.out.2; omega)).out (fun _ _ q => q)
          have HE := hid_mk (And.intro oS (And.intro bS HNob.out.2))
          have e3 := (HN.out.kept oS (.inr (Nat.zero_le _))).cell (i := 3) rfl
          clear oC xS bS oS hHeld c0 c1 c2 HNob
          go_wp2_with fail
          refine (keysV_nil _).mono ?_
          rintro e w1 ⟨rfl, rfl⟩
          have HQ := hid_mk (sortedV_zero (Bl.new wS #[.map none] 92) 49)
          clear e3
          go_wp2_with fail
          refine HQ.out.mono ?_
          rintro e w2 ⟨rfl, o2⟩
          have o3 : Out 0 0 wS w2 := ((Out.refl 0 0 wS).alloc _).trans o2
          clear o2 HQ
          go_wp2_with fail
          refine wp_loop_once ?_
          obtain ⟨oS, bS, hob⟩ := HE.out
          obtain ⟨o0, bz, hz⟩ := HZ.out
          have b2 := bS.kept o3 (.inr (Nat.zero_le _))
          have z2 := (bz.kept oS (.inr (Nat.zero_le _))).kept o3 (.inr (Nat.zero_le _))
          have f0 := b2.cell (i := 0) rfl
          have f1 := b2.cell (i := 1) rfl
          have f2 := b2.cell (i := 2) rfl
          have f3 := b2.cell (i := 3) rfl
          have f4 := b2.cell (i := 4) rfl
          have g0 := z2.cell (i := 0) rfl
          have g1 := z2.cell (i := 1) rfl
          have g2 := z2.cell (i := 2) rfl
          have g3 := z2.cell (i := 3) rfl
          have g4 := z2.cell (i := 4) rfl
          have i0 := z2.frozen 0
          have i1 := z2.frozen 1
          have i2 := z2.frozen 2
          have i3 := z2.frozen 3
          have i4 := z2.frozen 4
          have HF := hid_mk (And.intro z2 (And.intro ((o0.trans oS).trans o3) hz))
          clear oS bS hob o0 bz hz b2 z2 o3 HE
          go_wp2_with fail
          obtain ⟨z2, oF, hz⟩ := HF.out
          exact bodyPost_ret (results_cell1 Tryz.results26 rfl (load_nd (((((z2.set 0 _).set 1 _).set 2 _).set 3 _).set 4 _))) rfl ⟨_, _, rfl, ((((oF.setCell (p := ⟨z, 0, none⟩) (.inr (by show _ ≤ z; omega)) _).setCell (p := ⟨z, 1, none⟩) (.inr (by show _ ≤ z; omega)) _).setCell (p := ⟨z, 2, none⟩) (.inr (by show _ ≤ z; omega)) _).setCell (p := ⟨z, 3, none⟩) (.inr (by show _ ≤ z; omega)) _).setCell (p := ⟨z, 4, none⟩) (.inr (by show _ ≤ z; omega)) _⟩
        · exact AllReadyH.nil
      · exact AllReadyH.nil
    · refine AllReadyH.cons rfl (fun KK hK => ?_) ?_
      · simp only [xa, xb, xc]
        go_simp
        obtain ⟨wA, hwA⟩ : ∃ wA, (W0.alloc (.cells #[.int .i64 0, .int .i64 0, .slice none 0 0, .slice none 0 0, .slice none 0 0] 32)).drew = wA := ⟨_, rfl⟩
        obtain ⟨ob, hob⟩ : ∃ ob, W0.heap.size = ob := ⟨_, rfl⟩
        rw [hwA, hob]
        clear oC
        have oC : Out 0 0 W0 wA := hwA ▸ ((Out.refl 0 0 W0).alloc _).drew
        have HOut : Hid (Bl wA ob #[.int .i64 0, .int .i64 0, .slice none 0 0, .slice none 0 0, .slice none 0 0] 32) := hid_mk (by rw [← hwA, ← hob]; exact (Bl.new _ _ _).kept ((Out.refl 0 0 _).drew) (.inr (Nat.zero_le _)))
        have HNob : Hid (n ≠ ob ∧ W0.heap.size ≤ ob) := hid_mk (by have := HN.out.lt; omega)
        clear hwA hob
        refine hK.out _ _ ?hS20 (fun hHeld2 => ?rest20)
        case hS20 => exact ⟨oC.cell c0 (.inr (Nat.zero_le _)), oC.cell c1 (.inr (Nat.zero_le _)), oC.cell c2 (.inr (Nat.zero_le _))⟩
        clear hK KK
        (try clear hHeld)
        have hHeld := hHeld2
        clear hHeld2
        (try simp only [Act.put, xa, xb, xc, xd, xe, xf])
        refine wpAnyH_ready (rs := [14]) (by kernel_rfl) (by simp) ?_
        refine AllReadyH.cons rfl (fun KK hK => ?_) ?_
        · simp only [xa, xb, xc]
          go_simp
          refine (clone_vs hl hn1 hn2 (HV.out.quiet oC)).mono ?_
          rintro e wC ⟨cb, ccap, rfl, oX, hcb⟩
          replace oC := oC.trans oX
          replace HOut := hid_mk (HOut.out.kept oX (.inr (Nat.zero_le _)))
          clear oX hcb
          refine hK.out _ _ ?hS21 (fun hHeld2 => ?rest21)
          case hS21 => exact ⟨oC.cell c0 (.inr (Nat.zero_le _)), oC.cell c1 (.inr (Nat.zero_le _)), oC.cell c2 (.inr (Nat.zero_le _))⟩
          clear hK KK
          (try clear hHeld)
          have hHeld := hHeld2
          clear hHeld2
          (try simp only [Act.put, xa, xb, xc, xd, xe, xf])
          refine tk 15 ?_
          refine wpAnyH_ready (rs := [17]) (by kernel_rfl) (by simp) ?_
          refine AllReadyH.cons rfl (fun KK hK => ?_) ?_
          · simp only [xa, xb, xc]
            have f0 := HOut.out.cell (i := 0) rfl
            have g0 := HOut.out.frozen 0
            have f1 := HOut.out.cell (i := 1) rfl
            have g1 := HOut.out.frozen 1
            have f2 := HOut.out.cell (i := 2) rfl
            have g2 := HOut.out.frozen 2
            have f3 := HOut.out.cell (i := 3) rfl
            have g3 := HOut.out.frozen 3
            have f4 := HOut.out.cell (i := 4) rfl
            have g4 := HOut.out.frozen 4
            go_simp
            obtain ⟨wS, hwS⟩ : ∃ wS, ((((wC.setCell ⟨ob, 0, none⟩ (.int .i64 id)).setCell ⟨ob, 1, none⟩ (.int .i64 K)).setCell ⟨ob, 2, none⟩ (.slice none 0 0)).setCell ⟨ob, 3, none⟩ (.slice (some ⟨cb, 0, none⟩) nf ccap)).setCell ⟨ob, 4, none⟩ (.slice none 0 0) = wS := ⟨_, rfl⟩
            rw [hwS]
            have xS : Fx (fun j => j = ob) wC wS := hwS ▸ (((((Fx.refl (fun j => j = ob) wC).set (p := ⟨ob, 0, none⟩) (.inl rfl) _).set (p := ⟨ob, 1, none⟩) (.inl rfl) _).set (p := ⟨ob, 2, none⟩) (.inl rfl) _).set (p := ⟨ob, 3, none⟩) (.inl rfl) _).set (p := ⟨ob, 4, none⟩) (.inl rfl) _
            have bS : Bl wS ob #[.int .i64 id, .int .i64 K, .slice none 0 0, .slice (some ⟨cb, 0, none⟩) nf ccap, .slice none 0 0] 32 := hwS ▸ ((((HOut.out.set 0 _).set 1 _).set 2 _).set 3 _).set 4 _
            clear hwS f0 f1 f2 f3 f4 g0 g1 g2 g3 g4 HOut
            refine hK.out _ _ ?hS23 (fun hHeld2 => ?rest23)
            case hS23 => exact ⟨xS.cell (oC.cell c0 (.inr (Nat.zero_le _))) HNob.out.1, xS.cell (oC.cell c1 (.inr (Nat.zero_le _))) HNob.out.1, xS.cell (oC.cell c2 (.inr (Nat.zero_le _))) HNob.out.1⟩
            clear hK KK
            (try clear hHeld)
            have hHeld := hHeld2
            clear hHeld2
            (try simp only [Act.put, xa, xb, xc, xd, xe, xf])
            refine wpAnyH_done (by kernel_rfl) ?_ _
            have oS : Out 0 0 W0 wS := ((Fx.of_out (S := fun _ => False) oC).then xS (fun j h1 h2 => by have := HNob.out.2; omega)).out (fun _ _ q => q)
            have HE := hid_mk (And.intro oS (And.intro bS HNob.out.2))
            have e3 := (HN.out.kept oS (.inr (Nat.zero_le _))).cell (i := 3) rfl
            clear oC xS bS oS hHeld c0 c1 c2 HNob
            go_wp2_with fail
            refine (keysV_nil _).mono ?_
            rintro e w1 ⟨rfl, rfl⟩
            have HQ := hid_mk (sortedV_zero (Bl.new wS #[.map none] 92) 49)
            clear e3
            go_wp2_with fail
            refine HQ.out.mono ?_
            rintro e w2 ⟨rfl, o2⟩
            have o3 : Out 0 0 wS w2 := ((Out.refl 0 0 wS).alloc _).trans o2
            clear o2 HQ
            go_wp2_with fail
            refine wp_loop_once ?_
            obtain ⟨oS, bS, hob⟩ := HE.out
            obtain ⟨o0, bz, hz⟩ := HZ.out
            have b2 := bS.kept o3 (.inr (Nat.zero_le _))
            have z2 := (bz.kept oS (.inr (Nat.zero_le _))).kept o3 (.inr (Nat.zero_le _))
            have f0 := b2.cell (i := 0) rfl
            have f1 := b2.cell (i := 1) rfl
            have f2 := b2.cell (i := 2) rfl
            have f3 := b2.cell (i := 3) rfl
            have f4 := b2.cell (i := 4) rfl
            have g0 := z2.cell (i := 0) rfl
            have g1 := z2.cell (i := 1) rfl
            have g2 := z2.cell (i := 2) rfl
            have g3 := z2.cell (i := 3) rfl
            have g4 := z2.cell (i := 4) rfl
            have i0 := z2.frozen 0
            have i1 := z2.frozen 1
            have i2 := z2.frozen 2
            have i3 := z2.frozen 3
            have i4 := z2.frozen 4
            have HF := hid_mk (And.intro z2 (And.intro ((o0.trans oS).trans o3) hz))
            clear oS bS hob o0 bz hz b2 z2 o3 HE
            go_wp2_with fail
            obtain ⟨z2, oF, hz⟩ := HF.out
            exact bodyPost_ret (results_cell1 Tryz.results26 rfl (load_nd (((((z2.set 0 _).set 1 _).set 2 _).set 3 _).set 4 _))) rfl ⟨_, _, rfl, ((((oF.setCell (p := ⟨z, 0, none⟩) (.inr (by show _ ≤ z; omega)) _).setCell (p := ⟨z, 1, none⟩) (.inr (by show _ ≤ z; omega)) _).setCell (p := ⟨z, 2, none⟩) (.inr (by show _ ≤ z; omega)) _).setCell (p := ⟨z, 3, none⟩) (.inr (by show _ ≤ z; omega)) _).setCell (p := ⟨z, 4, none⟩) (.inr (by show _ ≤ z; omega)) _⟩
          · exact AllReadyH.nil
        · exact AllReadyH.nil
      · exact AllReadyH.nil
  · refine AllReadyH.cons rfl (fun KK hK => ?_) ?_
    · simp only [xa, xb, xc]
      go_simp
      obtain ⟨wA, hwA⟩ : ∃ wA, (W0.alloc (.cells #[.int .i64 0, .int .i64 0, .slice none 0 0, .slice none 0 0, .slice none 0 0] 32)).drew = wA := ⟨_, rfl⟩
      obtain ⟨ob, hob⟩ : ∃ ob, W0.heap.size = ob := ⟨_, rfl⟩
      rw [hwA, hob]
      clear oC
      have oC : Out 0 0 W0 wA := hwA ▸ ((Out.refl 0 0 W0).alloc _).drew
      have HOut : Hid (Bl wA ob #[.int .i64 0, .int .i64 0, .slice none 0 0, .slice none 0 0, .slice none 0 0] 32) := hid_mk (by rw [← hwA, ← hob]; exact (Bl.new _ _ _).kept ((Out.refl 0 0 _).drew) (.inr (Nat.zero_le _)))
      have HNob : Hid (n ≠ ob ∧ W0.heap.size ≤ ob) := hid_mk (by have := HN.out.lt; omega)
      clear hwA hob
      refine hK.out _ _ ?hS24 (fun hHeld2 => ?rest24)
      case hS24 => exact ⟨oC.cell c0 (.inr (Nat.zero_le _)), oC.cell c1 (.inr (Nat.zero_le _)), oC.cell c2 (.inr (Nat.zero_le _))⟩
      clear hK KK
      (try clear hHeld)
      have hHeld := hHeld2
      clear hHeld2
      (try simp only [Act.put, xa, xb, xc, xd, xe, xf])
      refine wpAnyH_ready (rs := [9]) (by kernel_rfl) (by simp) ?_
      refine AllReadyH.cons rfl (fun KK hK => ?_) ?_
      · simp only [xa, xb, xc]
        go_simp
        refine (clone_nil _).mono ?_
        rintro e w9 ⟨rfl, rfl⟩
        refine hK.out _ _ ?hS25 (fun hHeld2 => ?rest25)
        case hS25 => exact hHeld
        clear hK KK
        (try clear hHeld)
        have hHeld := hHeld2
        clear hHeld2
        (try simp only [Act.put, xa, xb, xc, xd, xe, xf])
        refine wpAnyH_ready (rs := [14]) (by kernel_rfl) (by simp) ?_
        refine AllReadyH.cons rfl (fun KK hK => ?_) ?_
        · simp only [xa, xb, xc]
          go_simp
          refine (clone_vs hl hn1 hn2 (HV.out.quiet oC)).mono ?_
          rintro e wC ⟨cb, ccap, rfl, oX, hcb⟩
          replace oC := oC.trans oX
          replace HOut := hid_mk (HOut.out.kept oX (.inr (Nat.zero_le _)))
          clear oX hcb
          refine hK.out _ _ ?hS26 (fun hHeld2 => ?rest26)
          case hS26 => exact ⟨oC.cell c0 (.inr (Nat.zero_le _)), oC.cell c1 (.inr (Nat.zero_le _)), oC.cell c2 (.inr (Nat.zero_le _))⟩
          clear hK KK
          (try clear hHeld)
          have hHeld := hHeld2
          clear hHeld2
          (try simp only [Act.put, xa, xb, xc, xd, xe, xf])
          refine tk 15 ?_
          refine wpAnyH_ready (rs := [17]) (by kernel_rfl) (by simp) ?_
          refine AllReadyH.cons rfl (fun KK hK => ?_) ?_
          · simp only [xa, xb, xc]
            have f0 := HOut.out.cell (i := 0) rfl
            have g0 := HOut.out.frozen 0
            have f1 := HOut.out.cell (i := 1) rfl
            have g1 := HOut.out.frozen 1
            have f2 := HOut.out.cell (i := 2) rfl
            have g2 := HOut.out.frozen 2
            have f3 := HOut.out.cell (i := 3) rfl
            have g3 := HOut.out.frozen 3
            have f4 := HOut.out.cell (i := 4) rfl
            have g4 := HOut.out.frozen 4
            go_simp
            obtain ⟨wS, hwS⟩ : ∃ wS, ((((wC.setCell ⟨ob, 0, none⟩ (.int .i64 id)).setCell ⟨ob, 1, none⟩ (.int .i64 K)).setCell ⟨ob, 2, none⟩ (.slice none 0 0)).setCell ⟨ob, 3, none⟩ (.slice (some ⟨cb, 0, none⟩) nf ccap)).setCell ⟨ob, 4, none⟩ (.slice none 0 0) = wS := ⟨_, rfl⟩
            rw [hwS]
            have xS : Fx (fun j => j = ob) wC wS := hwS ▸ (((((Fx.refl (fun j => j = ob) wC).set (p := ⟨ob, 0, none⟩) (.inl rfl) _).set (p := ⟨ob, 1, none⟩) (.inl rfl) _).set (p := ⟨ob, 2, none⟩) (.inl rfl) _).set (p := ⟨ob, 3, none⟩) (.inl rfl) _).set (p := ⟨ob, 4, none⟩) (.inl rfl) _
            have bS : Bl wS ob #[.int .i64 id, .int .i64 K, .slice none 0 0, .slice (some ⟨cb, 0, none⟩) nf ccap, .slice none 0 0] 32 := hwS ▸ ((((HOut.out.set 0 _).set 1 _).set 2 _).set 3 _).set 4 _
            clear hwS f0 f1 f2 f3 f4 g0 g1 g2 g3 g4 HOut
            refine hK.out _ _ ?hS28 (fun hHeld2 => ?rest28)
            case hS28 => exact ⟨xS.cell (oC.cell c0 (.inr (Nat.zero_le _))) HNob.out.1, xS.cell (oC.cell c1 (.inr (Nat.zero_le _))) HNob.out.1, xS.cell (oC.cell c2 (.inr (Nat.zero_le _))) HNob.out.1⟩
            clear hK KK
            (try clear hHeld)
            have hHeld := hHeld2
            clear hHeld2
            (try simp only [Act.put, xa, xb, xc, xd, xe, xf])
            refine wpAnyH_done (by kernel_rfl) ?_ _
            have oS : Out 0 0 W0 wS := ((Fx.of_out (S := fun _ => False) oC).then xS (fun j h1 h2 => by have := HNob.out.2; omega)).out (fun _ _ q => q)
            have HE := hid_mk (And.intro oS (And.intro bS HNob.out.2))
            have e3 := (HN.out.kept oS (.inr (Nat.zero_le _))).cell (i := 3) rfl
            clear oC xS bS oS hHeld c0 c1 c2 HNob
            go_wp2_with fail
            refine (keysV_nil _).mono ?_
            rintro e w1 ⟨rfl, rfl⟩
            have HQ := hid_mk (sortedV_zero (Bl.new wS #[.map none] 92) 49)
            clear e3
            go_wp2_with fail
            refine HQ.out.mono ?_
            rintro e w2 ⟨rfl, o2⟩
            have o3 : Out 0 0 wS w2 := ((Out.refl 0 0 wS).alloc _).trans o2
            clear o2 HQ
            go_wp2_with fail
            refine wp_loop_once ?_
            obtain ⟨oS, bS, hob⟩ := HE.out
            obtain ⟨o0, bz, hz⟩ := HZ.out
            have b2 := bS.kept o3 (.inr (Nat.zero_le _))
            have z2 := (bz.kept oS (.inr (Nat.zero_le _))).kept o3 (.inr (Nat.zero_le _))
            have f0 := b2.cell (i := 0) rfl
            have f1 := b2.cell (i := 1) rfl
            have f2 := b2.cell (i := 2) rfl
            have f3 := b2.cell (i := 3) rfl
            have f4 := b2.cell (i := 4) rfl
            have g0 := z2.cell (i := 0) rfl
            have g1 := z2.cell (i := 1) rfl
            have g2 := z2.cell (i := 2) rfl
            have g3 := z2.cell (i := 3) rfl
            have g4 := z2.cell (i := 4) rfl
            have i0 := z2.frozen 0
            have i1 := z2.frozen 1
            have i2 := z2.frozen 2
            have i3 := z2.frozen 3
            have i4 := z2.frozen 4
            have HF := hid_mk (And.intro z2 (And.intro ((o0.trans oS).trans o3) hz))
            clear oS bS hob o0 bz hz b2 z2 o3 HE
            go_wp2_with fail
            obtain ⟨z2, oF, hz⟩ := HF.out
            exact bodyPost_ret (results_cell1 Tryz.results26 rfl (load_nd (((((z2.set 0 _).set 1 _).set 2 _).set 3 _).set 4 _))) rfl ⟨_, _, rfl, ((((oF.setCell (p := ⟨z, 0, none⟩) (.inr (by show _ ≤ z; omega)) _).setCell (p := ⟨z, 1, none⟩) (.inr (by show _ ≤ z; omega)) _).setCell (p := ⟨z, 2, none⟩) (.inr (by show _ ≤ z; omega)) _).setCell (p := ⟨z, 3, none⟩) (.inr (by show _ ≤ z; omega)) _).setCell (p := ⟨z, 4, none⟩) (.inr (by show _ ≤ z; omega)) _⟩
          · exact AllReadyH.nil
        · exact AllReadyH.nil
      · exact AllReadyH.nil
    · exact AllReadyH.nil
end Go.Proofs.YtocncffplcfpbaaGreatDoor
