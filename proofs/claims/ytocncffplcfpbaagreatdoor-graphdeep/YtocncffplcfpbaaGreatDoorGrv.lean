/- graph: alive -/
import Derived.Test.YtocncffplcfpbaaGreatDoorGru
namespace Go.Proofs.YtocncffplcfpbaaGreatDoor
open Go.RowKit Go.MapKept
set_option linter.unusedVariables false
set_option linter.unusedSimpArgs false

/-- alive's graph as it is laid -/
def alW (W : World) (z : Nat) : World := (((((((W.alloc (.cells #[.int .i64 3, .int .i64 0] 28)).alloc (.cells #[.int .i64 2, .int .i64 2, .slice none 0 0, .slice (some ⟨z, 0, none⟩) 1 1, .slice none 0 0] 32)).alloc (.cells #[.int .i64 2, .int .i64 2, .int .i64 3, .int .i64 0] 28)).alloc (.cells #[.int .i64 1, .int .i64 8, .slice none 0 0, .slice (some ⟨z + 1 + 1, 0, none⟩) 2 2, .slice none 0 0] 32)).alloc (.cells #[.int .i64 1, .int .i64 8, .slice none 0 0, .slice (some ⟨z + 1 + 1, 0, none⟩) 2 2, .slice none 0 0, .int .i64 2, .int .i64 2, .slice none 0 0, .slice (some ⟨z, 0, none⟩) 1 1, .slice none 0 0] 32)).alloc (.cells #[.int .i64 2, .int .i64 1] 28)).alloc (.cells #[.slice (some ⟨z + 1 + 1 + 1 + 1, 0, none⟩) 2 2, .slice (some ⟨z + 1 + 1 + 1 + 1 + 1, 0, none⟩) 1 1] 26))
theorem al_parts {W : World} {z : Nat} (hz : W.heap.size = z) : Out 0 0 W (alW W z) ∧ AG (alW W z) (z + 1 + 1 + 1 + 1) (z + 1 + 1 + 1 + 1 + 1) (z + 1 + 1) z ∧ Bl (alW W z) (z + 1 + 1 + 1 + 1 + 1 + 1) #[.slice (some ⟨z + 1 + 1 + 1 + 1, 0, none⟩) 2 2, .slice (some ⟨z + 1 + 1 + 1 + 1 + 1, 0, none⟩) 1 1] 26 := by
  have q0 : Bl (alW W z) (z) #[.int .i64 3, .int .i64 0] 28 := by
    have := ((((((Bl.new W #[.int .i64 3, .int .i64 0] 28).alloc (.cells #[.int .i64 2, .int .i64 2, .slice none 0 0, .slice (some ⟨z, 0, none⟩) 1 1, .slice none 0 0] 32)).alloc (.cells #[.int .i64 2, .int .i64 2, .int .i64 3, .int .i64 0] 28)).alloc (.cells #[.int .i64 1, .int .i64 8, .slice none 0 0, .slice (some ⟨z + 1 + 1, 0, none⟩) 2 2, .slice none 0 0] 32)).alloc (.cells #[.int .i64 1, .int .i64 8, .slice none 0 0, .slice (some ⟨z + 1 + 1, 0, none⟩) 2 2, .slice none 0 0, .int .i64 2, .int .i64 2, .slice none 0 0, .slice (some ⟨z, 0, none⟩) 1 1, .slice none 0 0] 32)).alloc (.cells #[.int .i64 2, .int .i64 1] 28)).alloc (.cells #[.slice (some ⟨z + 1 + 1 + 1 + 1, 0, none⟩) 2 2, .slice (some ⟨z + 1 + 1 + 1 + 1 + 1, 0, none⟩) 1 1] 26)
    simp only [size_alloc, hz] at this
    exact this
  have q1 : Bl (alW W z) (z + 1) #[.int .i64 2, .int .i64 2, .slice none 0 0, .slice (some ⟨z, 0, none⟩) 1 1, .slice none 0 0] 32 := by
    have := (((((Bl.new (W.alloc (.cells #[.int .i64 3, .int .i64 0] 28)) #[.int .i64 2, .int .i64 2, .slice none 0 0, .slice (some ⟨z, 0, none⟩) 1 1, .slice none 0 0] 32).alloc (.cells #[.int .i64 2, .int .i64 2, .int .i64 3, .int .i64 0] 28)).alloc (.cells #[.int .i64 1, .int .i64 8, .slice none 0 0, .slice (some ⟨z + 1 + 1, 0, none⟩) 2 2, .slice none 0 0] 32)).alloc (.cells #[.int .i64 1, .int .i64 8, .slice none 0 0, .slice (some ⟨z + 1 + 1, 0, none⟩) 2 2, .slice none 0 0, .int .i64 2, .int .i64 2, .slice none 0 0, .slice (some ⟨z, 0, none⟩) 1 1, .slice none 0 0] 32)).alloc (.cells #[.int .i64 2, .int .i64 1] 28)).alloc (.cells #[.slice (some ⟨z + 1 + 1 + 1 + 1, 0, none⟩) 2 2, .slice (some ⟨z + 1 + 1 + 1 + 1 + 1, 0, none⟩) 1 1] 26)
    simp only [size_alloc, hz] at this
    exact this
  have q2 : Bl (alW W z) (z + 1 + 1) #[.int .i64 2, .int .i64 2, .int .i64 3, .int .i64 0] 28 := by
    have := ((((Bl.new ((W.alloc (.cells #[.int .i64 3, .int .i64 0] 28)).alloc (.cells #[.int .i64 2, .int .i64 2, .slice none 0 0, .slice (some ⟨z, 0, none⟩) 1 1, .slice none 0 0] 32)) #[.int .i64 2, .int .i64 2, .int .i64 3, .int .i64 0] 28).alloc (.cells #[.int .i64 1, .int .i64 8, .slice none 0 0, .slice (some ⟨z + 1 + 1, 0, none⟩) 2 2, .slice none 0 0] 32)).alloc (.cells #[.int .i64 1, .int .i64 8, .slice none 0 0, .slice (some ⟨z + 1 + 1, 0, none⟩) 2 2, .slice none 0 0, .int .i64 2, .int .i64 2, .slice none 0 0, .slice (some ⟨z, 0, none⟩) 1 1, .slice none 0 0] 32)).alloc (.cells #[.int .i64 2, .int .i64 1] 28)).alloc (.cells #[.slice (some ⟨z + 1 + 1 + 1 + 1, 0, none⟩) 2 2, .slice (some ⟨z + 1 + 1 + 1 + 1 + 1, 0, none⟩) 1 1] 26)
    simp only [size_alloc, hz] at this
    exact this
  have q3 : Bl (alW W z) (z + 1 + 1 + 1) #[.int .i64 1, .int .i64 8, .slice none 0 0, .slice (some ⟨z + 1 + 1, 0, none⟩) 2 2, .slice none 0 0] 32 := by
    have := (((Bl.new (((W.alloc (.cells #[.int .i64 3, .int .i64 0] 28)).alloc (.cells #[.int .i64 2, .int .i64 2, .slice none 0 0, .slice (some ⟨z, 0, none⟩) 1 1, .slice none 0 0] 32)).alloc (.cells #[.int .i64 2, .int .i64 2, .int .i64 3, .int .i64 0] 28)) #[.int .i64 1, .int .i64 8, .slice none 0 0, .slice (some ⟨z + 1 + 1, 0, none⟩) 2 2, .slice none 0 0] 32).alloc (.cells #[.int .i64 1, .int .i64 8, .slice none 0 0, .slice (some ⟨z + 1 + 1, 0, none⟩) 2 2, .slice none 0 0, .int .i64 2, .int .i64 2, .slice none 0 0, .slice (some ⟨z, 0, none⟩) 1 1, .slice none 0 0] 32)).alloc (.cells #[.int .i64 2, .int .i64 1] 28)).alloc (.cells #[.slice (some ⟨z + 1 + 1 + 1 + 1, 0, none⟩) 2 2, .slice (some ⟨z + 1 + 1 + 1 + 1 + 1, 0, none⟩) 1 1] 26)
    simp only [size_alloc, hz] at this
    exact this
  have q4 : Bl (alW W z) (z + 1 + 1 + 1 + 1) #[.int .i64 1, .int .i64 8, .slice none 0 0, .slice (some ⟨z + 1 + 1, 0, none⟩) 2 2, .slice none 0 0, .int .i64 2, .int .i64 2, .slice none 0 0, .slice (some ⟨z, 0, none⟩) 1 1, .slice none 0 0] 32 := by
    have := ((Bl.new ((((W.alloc (.cells #[.int .i64 3, .int .i64 0] 28)).alloc (.cells #[.int .i64 2, .int .i64 2, .slice none 0 0, .slice (some ⟨z, 0, none⟩) 1 1, .slice none 0 0] 32)).alloc (.cells #[.int .i64 2, .int .i64 2, .int .i64 3, .int .i64 0] 28)).alloc (.cells #[.int .i64 1, .int .i64 8, .slice none 0 0, .slice (some ⟨z + 1 + 1, 0, none⟩) 2 2, .slice none 0 0] 32)) #[.int .i64 1, .int .i64 8, .slice none 0 0, .slice (some ⟨z + 1 + 1, 0, none⟩) 2 2, .slice none 0 0, .int .i64 2, .int .i64 2, .slice none 0 0, .slice (some ⟨z, 0, none⟩) 1 1, .slice none 0 0] 32).alloc (.cells #[.int .i64 2, .int .i64 1] 28)).alloc (.cells #[.slice (some ⟨z + 1 + 1 + 1 + 1, 0, none⟩) 2 2, .slice (some ⟨z + 1 + 1 + 1 + 1 + 1, 0, none⟩) 1 1] 26)
    simp only [size_alloc, hz] at this
    exact this
  have q5 : Bl (alW W z) (z + 1 + 1 + 1 + 1 + 1) #[.int .i64 2, .int .i64 1] 28 := by
    have := (Bl.new (((((W.alloc (.cells #[.int .i64 3, .int .i64 0] 28)).alloc (.cells #[.int .i64 2, .int .i64 2, .slice none 0 0, .slice (some ⟨z, 0, none⟩) 1 1, .slice none 0 0] 32)).alloc (.cells #[.int .i64 2, .int .i64 2, .int .i64 3, .int .i64 0] 28)).alloc (.cells #[.int .i64 1, .int .i64 8, .slice none 0 0, .slice (some ⟨z + 1 + 1, 0, none⟩) 2 2, .slice none 0 0] 32)).alloc (.cells #[.int .i64 1, .int .i64 8, .slice none 0 0, .slice (some ⟨z + 1 + 1, 0, none⟩) 2 2, .slice none 0 0, .int .i64 2, .int .i64 2, .slice none 0 0, .slice (some ⟨z, 0, none⟩) 1 1, .slice none 0 0] 32)) #[.int .i64 2, .int .i64 1] 28).alloc (.cells #[.slice (some ⟨z + 1 + 1 + 1 + 1, 0, none⟩) 2 2, .slice (some ⟨z + 1 + 1 + 1 + 1 + 1, 0, none⟩) 1 1] 26)
    simp only [size_alloc, hz] at this
    exact this
  have q6 : Bl (alW W z) (z + 1 + 1 + 1 + 1 + 1 + 1) #[.slice (some ⟨z + 1 + 1 + 1 + 1, 0, none⟩) 2 2, .slice (some ⟨z + 1 + 1 + 1 + 1 + 1, 0, none⟩) 1 1] 26 := by
    have := Bl.new ((((((W.alloc (.cells #[.int .i64 3, .int .i64 0] 28)).alloc (.cells #[.int .i64 2, .int .i64 2, .slice none 0 0, .slice (some ⟨z, 0, none⟩) 1 1, .slice none 0 0] 32)).alloc (.cells #[.int .i64 2, .int .i64 2, .int .i64 3, .int .i64 0] 28)).alloc (.cells #[.int .i64 1, .int .i64 8, .slice none 0 0, .slice (some ⟨z + 1 + 1, 0, none⟩) 2 2, .slice none 0 0] 32)).alloc (.cells #[.int .i64 1, .int .i64 8, .slice none 0 0, .slice (some ⟨z + 1 + 1, 0, none⟩) 2 2, .slice none 0 0, .int .i64 2, .int .i64 2, .slice none 0 0, .slice (some ⟨z, 0, none⟩) 1 1, .slice none 0 0] 32)).alloc (.cells #[.int .i64 2, .int .i64 1] 28)) #[.slice (some ⟨z + 1 + 1 + 1 + 1, 0, none⟩) 2 2, .slice (some ⟨z + 1 + 1 + 1 + 1 + 1, 0, none⟩) 1 1] 26
    simp only [size_alloc, hz] at this
    exact this
  refine ⟨((((((((Out.refl 0 0 W).alloc _).alloc _).alloc _).alloc _).alloc _).alloc _).alloc _), ⟨fun i hi => ?_, .inr ⟨_, 0, rfl, fun j v hv => ?_⟩⟩, q6⟩
  · rcases lt2 hi with rfl | rfl
    · refine ⟨⟨q4.cell (i := 0) rfl, q4.cell (i := 1) rfl, q4.cell (i := 2) rfl, q4.cell (i := 3) rfl, q4.cell (i := 4) rfl⟩, .inr ⟨z + 1 + 1, 0, rfl, fun j v hv => ?_⟩, rfl⟩
      match j, hv with
      | 0, hv => cases hv; exact ⟨q2.cell (i := 0) rfl, q2.cell (i := 1) rfl⟩
      | 1, hv => cases hv; exact ⟨q2.cell (i := 2) rfl, q2.cell (i := 3) rfl⟩
      | j + 2, hv => simp [lA] at hv
    · refine ⟨⟨q4.cell (i := 5) rfl, q4.cell (i := 6) rfl, q4.cell (i := 7) rfl, q4.cell (i := 8) rfl, q4.cell (i := 9) rfl⟩, .inr ⟨z, 0, rfl, fun j v hv => ?_⟩, rfl⟩
      match j, hv with
      | 0, hv => cases hv; exact ⟨q0.cell (i := 0) rfl, q0.cell (i := 1) rfl⟩
      | j + 1, hv => simp [lA] at hv
  · match j, hv with
    | 0, hv => cases hv; exact ⟨q5.cell (i := 0) rfl, q5.cell (i := 1) rfl⟩
    | j + 1, hv => simp at hv
set_option maxRecDepth 100000 in
set_option maxHeartbeats 8000000 in
theorem alive_any {W : World} (hT : Tab W) : Calls Tryz.prog 4 #[] W fun e w' => e = .returned (.bool true) ∧ Out 0 0 W w' := by
  have HT := hid_mk hT
  clear hT
  obtain ⟨z, hz⟩ : ∃ z, W.heap.size = z := ⟨_, rfl⟩
  go_enter Tryz.func4, Tryz.ntmps4
  go_wp2_with fail
  have HA := hid_mk (al_parts hz)
  obtain ⟨V, hV⟩ : ∃ V, alW W z = V := ⟨_, rfl⟩
  rw [hV] at HA
  have hV2 := hV
  unfold alW at hV2
  rw [hV2]
  clear hV hV2 hz
  obtain ⟨gg, hgg⟩ : ∃ gg, z + 1 + 1 + 1 + 1 + 1 + 1 = gg := ⟨_, rfl⟩
  obtain ⟨gr, hgr⟩ : ∃ gr, z + 1 + 1 + 1 + 1 + 1 = gr := ⟨_, rfl⟩
  obtain ⟨gn, hgn⟩ : ∃ gn, z + 1 + 1 + 1 + 1 = gn := ⟨_, rfl⟩
  rw [hgg, hgr, hgn] at HA
  rw [hgg, hgr, hgn]
  clear hgg hgr hgn
  refine (collect_alive (HT.out.quiet HA.out.1) HA.out.2.1).mono ?_
  rintro e w1 ⟨xa, xc, xr, xrc, rfl, o1⟩
  have g0 := (HA.out.2.2.kept o1 (.inr (Nat.zero_le _))).cell (i := 0) rfl
  have g1 := (HA.out.2.2.kept o1 (.inr (Nat.zero_le _))).cell (i := 1) rfl
  have hgl := (HA.out.2.2.kept o1 (.inr (Nat.zero_le _))).lt
  have HO1 := hid_mk o1
  clear o1
  go_wp2_with fail
  obtain ⟨w2, hw2⟩ : ∃ w2, (w1.alloc (.cells #[.slice (some ⟨xa, 0, none⟩) 1 xc, .slice (some ⟨xr, 0, none⟩) 1 xrc] 26)).alloc (.cells #[.int .i64 1, .int .i64 1, .int .i64 1, .int .i64 0, .int .i64 0] 34) = w2 := ⟨_, rfl⟩
  obtain ⟨xb, hxb⟩ : ∃ xb, w1.heap.size = xb := ⟨_, rfl⟩
  have o2 : Out 0 0 w1 w2 := hw2 ▸ ((Out.refl 0 0 w1).alloc _).alloc _
  have bx : Bl w2 xb #[.slice (some ⟨xa, 0, none⟩) 1 xc, .slice (some ⟨xr, 0, none⟩) 1 xrc] 26 := by rw [← hw2, ← hxb]; exact (Bl.new _ _ _).alloc _
  have br : Bl w2 (xb + 1) #[.int .i64 1, .int .i64 1, .int .i64 1, .int .i64 0, .int .i64 0] 34 := by
    have := Bl.new (w1.alloc (.cells #[.slice (some ⟨xa, 0, none⟩) 1 xc, .slice (some ⟨xr, 0, none⟩) 1 xrc] 26)) #[.int .i64 1, .int .i64 1, .int .i64 1, .int .i64 0, .int .i64 0] 34
    rwa [size_alloc, hw2, hxb] at this
  rw [hw2, hxb]
  obtain ⟨rb, hrb⟩ : ∃ rb, xb + 1 = rb := ⟨_, rfl⟩
  rw [hrb] at br
  rw [hrb]
  have oV2 := HO1.out.trans o2
  have H2 := hid_mk (And.intro oV2 (And.intro bx br))
  clear hw2 hxb hrb o2 bx br g0 g1 hgl HO1
  refine (live_alive ((HT.out.quiet HA.out.1).quiet oV2) (HA.out.2.1.quiet oV2)).mono ?_
  rintro e w3 ⟨lb, lc, rfl, o3, k3, -⟩
  have oV3 := oV2.trans o3
  have b3 := HA.out.2.2.kept oV3 (.inr (Nat.zero_le _))
  have g0 := b3.cell (i := 0) rfl
  have g1 := b3.cell (i := 1) rfl
  have H3 := hid_mk (And.intro oV3 (And.intro (H2.out.2.1.kept o3 (.inr (Nat.zero_le _))) (And.intro (H2.out.2.2.kept o3 (.inr (Nat.zero_le _))) k3)))
  clear oV2 o3 oV3 b3 H2 k3
  go_wp2_with fail
  refine (check_alive ((HT.out.quiet HA.out.1).quiet H3.out.1) (HA.out.2.1.quiet H3.out.1)).mono ?_
  rintro e w4 ⟨rfl, o4⟩
  obtain ⟨oV3, bx, br, k3⟩ := H3.out
  have bx4 := bx.kept o4 (.inr (Nat.zero_le _))
  have br4 := br.kept o4 (.inr (Nat.zero_le _))
  have f0 := bx4.cell (i := 0) rfl
  have h0 := br4.cell (i := 0) rfl
  have h1 := br4.cell (i := 1) rfl
  have h2 := br4.cell (i := 2) rfl
  have h3 := br4.cell (i := 3) rfl
  have h4 := br4.cell (i := 4) rfl
  have k4 := o4.cell k3 (.inr (Nat.zero_le _))
  have HE := hid_mk ((HA.out.1.trans oV3).trans o4)
  clear oV3 bx br k3 bx4 br4 o4 g0 g1 H3 HA
  go_wp2_with fail
  go_ret
  exact ⟨rfl, HE.out⟩
end Go.Proofs.YtocncffplcfpbaaGreatDoor
