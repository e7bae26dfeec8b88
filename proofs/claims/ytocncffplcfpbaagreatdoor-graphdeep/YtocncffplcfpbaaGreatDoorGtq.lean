/- graph: Collect of a plain graph where all lives and nothing is held weakly -/
import Derived.Test.YtocncffplcfpbaaGreatDoorGtp
import Derived.Test.YtocncffplcfpbaaGreatDoorGru
namespace Go.Proofs.YtocncffplcfpbaaGreatDoor
open Go.RowKit Go.MapKept
set_option linter.unusedVariables false
set_option linter.unusedSimpArgs false

/-- what Collect tells -/
def CoQ (W : World) (n : Nat) (K nf : Nat → Nat) (l : Nat → List VP) (nr : Nat) (rl : List VP) (e : Ending) (w' : World) : Prop := ∃ (a : Option Addr) (ac cb cc : Nat) (tb tc : Nat → Nat), e = .returned (.tuple #[.agg #[.slice a n ac, .slice (some ⟨cb, 0, none⟩) nr cc], .agg #[.int .i64 (n : Int), .int .i64 0, .int .i64 0, .int .i64 0, .int .i64 0], .int .i64 0]) ∧ Out 0 0 W w' ∧ Told w' a ac n K nf tb tc l W.heap.size ∧ VB w' cb rl
theorem Told.fx {S : Nat → Prop} {w w' : World} {a : Option Addr} {ac n B : Nat} {K nf tb tc : Nat → Nat} {l : Nat → List VP} (h : Told w a ac n K nf tb tc l B) (x : Fx S w w') (h1 : ∀ g, (Value.slice a n ac).ownBlock = some g → ¬ S g) (h2 : ∀ i, i < n → ¬ S (tb i)) : Told w' a ac n K nf tb tc l B :=
  ⟨own_fx h.1 x h1, fun i hi => (h.2 i hi).fx x (h2 i hi)⟩
set_option maxRecDepth 100000 in
set_option maxHeartbeats 8000000 in
theorem collect_plain {W : World} (hT : Tab W) {gn n cn nr rc gr off : Nat} {K : Nat → Nat} {fa : Nat → Option Addr} {nf fc : Nat → Nat} {l : Nat → List VP} {r : List VP} (H : PGr W gn n K fa nf fc l (some ⟨gr, off, none⟩) nr r) (hn1 : 1 ≤ n) (hr0 : 0 < nr) (h8 : ∀ i, i < n → K i ≠ 8 ∧ K i ≠ 9 ∧ 0 < nf i) (hlv : ∀ y, 1 ≤ y ∧ y ≤ (n : Int) → LvG n K l r y) :
    Calls Tryz.prog 5 #[.agg #[.slice (some ⟨gn, 0, none⟩) n cn, .slice (some ⟨gr, off, none⟩) nr rc]] W (CoQ W n K nf l nr r) := by
  obtain ⟨W0, hW0⟩ : ∃ W0, ((W.alloc (.cells #[.slice (some ⟨gn, 0, none⟩) n cn, .slice (some ⟨gr, off, none⟩) nr rc] 26)).alloc (.cells #[.slice none 0 0, .slice none 0 0] 26)).alloc (.cells #[.int .i64 0, .int .i64 0, .int .i64 0, .int .i64 0, .int .i64 0] 34) = W0 := ⟨_, rfl⟩
  obtain ⟨z, hz⟩ : ∃ z, W.heap.size = z := ⟨_, rfl⟩
  have o0 : Out 0 0 W W0 := hW0 ▸ (((Out.refl 0 0 W).alloc _).alloc _).alloc _
  have b0 : Bl W0 z #[.slice (some ⟨gn, 0, none⟩) n cn, .slice (some ⟨gr, off, none⟩) nr rc] 26 := by rw [← hW0, ← hz]; exact ((Bl.new _ _ _).alloc _).alloc _
  have b1 : Bl W0 (z + 1) #[.slice none 0 0, .slice none 0 0] 26 := by
    have := (Bl.new (W.alloc (.cells #[.slice (some ⟨gn, 0, none⟩) n cn, .slice (some ⟨gr, off, none⟩) nr rc] 26)) #[.slice none 0 0, .slice none 0 0] 26).alloc (.cells #[.int .i64 0, .int .i64 0, .int .i64 0, .int .i64 0, .int .i64 0] 34)
    rwa [size_alloc, hz, hW0] at this
  have b2 : Bl W0 (z + 1 + 1) #[.int .i64 0, .int .i64 0, .int .i64 0, .int .i64 0, .int .i64 0] 34 := by
    have := Bl.new ((W.alloc (.cells #[.slice (some ⟨gn, 0, none⟩) n cn, .slice (some ⟨gr, off, none⟩) nr rc] 26)).alloc (.cells #[.slice none 0 0, .slice none 0 0] 26)) #[.int .i64 0, .int .i64 0, .int .i64 0, .int .i64 0, .int .i64 0] 34
    rwa [size_alloc, size_alloc, hz, hW0] at this
  have H0 := H.quiet o0
  have HL := hid_mk (load_plain (rc := rc) (cn := cn) (hT.quiet o0) H0.1 H0.2.1 H0.2.2.1 (by have := H0.2.2.2.2.2.1; omega) H0.2.2.2.1)
  have HO := hid_mk (And.intro o0 (And.intro b0 (And.intro b1 (And.intro b2 (And.intro H0 hz)))))
  have HX := hid_mk (And.intro hn1 (And.intro hr0 (And.intro h8 hlv)))
  have e0 := b0.cell (i := 0) rfl
  have e1 := b0.cell (i := 1) rfl
  clear hT H o0 b0 b1 b2 H0 hn1 hr0 h8 hlv
  go_enter Tryz.func5, Tryz.ntmps5
  go_wp2_with fail
  (try rw [hW0])
  clear hW0 hz
  refine HL.out.mono ?_
  rintro e w1 ⟨hh, m, lo, b, rfl, o1, l1, l2, l3, l4, hL⟩
  obtain ⟨o0, b0, b1, b2, H0, hz⟩ := HO.out
  obtain ⟨hn1, hr0, h8, hlv⟩ := HX.out
  replace e1 := (b0.kept o1 (.inr (Nat.zero_le _))).cell (i := 1) rfl
  have HC := hid_mk (collect_live (W := w1) (n := n) (K := kA K n) (l := lI n l) (rl := r) (ra := some ⟨gr, off, none⟩) (nr := nr) (rc := rc) hL.1 (fun y v hv => by
    obtain ⟨i, hi, rfl, rfl⟩ := fA_some hv
    exact ⟨b i, K i, _, _, rfl, (hL.2.1 i hi).2.1, by have := (h8 i hi).1; omega, by have := (h8 i hi).2.1; omega⟩) (fun y => ⟨fun q => fA_dom q, fun q => fA_ne q⟩) H0.2.2.2.2.1 hn1 (fun w o => by
    have hLw : Loaded w lo hh m n K fa nf fc b := ⟨hL.1.quiet o, hL.2.1.quiet o, hL.2.2⟩
    exact reach_plain (W := W0) H0 (o1.trans o) hLw rc) (fun y hy => hlv y (fA_dom hy)))
  have H1 := hid_mk (And.intro o1 hL)
  clear o1 HL o0 b0 b1 b2 H0 hz hn1 hr0 h8 hlv hL l1 l2 l3 l4 e0
  go_wp2_with fail
  refine HC.out.mono ?_
  rintro e w2 ⟨rfl, o2⟩
  obtain ⟨o1, hL⟩ := H1.out
  obtain ⟨o0, b0, b1, b2, H0, hz⟩ := HO.out
  obtain ⟨hn1, hr0, h8, hlv⟩ := HX.out
  have oW : Out 0 0 W0 w2 := o1.trans o2
  have y1 := b0.kept oW (.inr (Nat.zero_le _))
  have y2 := b1.kept oW (.inr (Nat.zero_le _))
  have y3 := b2.kept oW (.inr (Nat.zero_le _))
  have HY := hid_mk (And.intro y1 (And.intro y2 (And.intro y3 (And.intro (o0.trans oW) (And.intro hz o0.size)))))
  have e2 := y1.cell (i := 1) rfl
  have HP2 : Hid (∀ w, Out 0 0 w2 w → Calls Tryz.prog 11 #[.pointer (some ⟨hh, 0, none⟩), .slice (some ⟨gr, off, none⟩) nr rc] w (HtQ w n K nf l nr r)) := hid_mk (fun w o => htell_own (hL.1.quiet (o2.trans o)) hn1 H0.2.2.2.2.1 (fun i hi => ⟨(hL.2.1 i hi).2.1.kept (o2.trans o) (.inr (Nat.zero_le _)), (H0.1 i hi).2.1.quiet (oW.trans o), (H0.1 i hi).2.2, (h8 i hi).2.2, (H0.2.2.2.2.2.2.2 i hi).1⟩) (H0.2.1.quiet (oW.trans o)) H0.2.2.1 hr0 H0.2.2.2.2.2.1)
  clear o1 hL o0 b0 b1 b2 H0 hz y1 y2 y3 oW o2 hn1 hr0 h8 hlv H1 HO HC e1 HX
  go_upto_region 5 with fail
  obtain ⟨w3, hw3⟩ : ∃ w3, w2.alloc (.cells #[.int .i64 (n : Int), .int .i64 0, .int .i64 0, .int .i64 0, .int .i64 0] 34) = w3 := ⟨_, rfl⟩
  obtain ⟨p7, hp7⟩ : ∃ p7, w2.heap.size = p7 := ⟨_, rfl⟩
  have o3 : Out 0 0 w2 w3 := hw3 ▸ (Out.refl 0 0 w2).alloc _
  have b7 : Bl w3 p7 #[.int .i64 (n : Int), .int .i64 0, .int .i64 0, .int .i64 0, .int .i64 0] 34 := by rw [← hw3, ← hp7]; exact Bl.new _ _ _
  rw [hw3, hp7]
  have HQ : Hid (z < p7 ∧ z + 1 < p7 ∧ z + 1 + 1 < p7) := by
    obtain ⟨y1, y2, y3, -⟩ := HY.out
    have := y1.lt; have := y2.lt; have := y3.lt
    exact hid_mk (by omega)
  have HTL := hid_mk (HP2.out w3.drew o3.drew)
  replace e2 := o3.cell e2 (.inr (Nat.zero_le _))
  have r0 := b7.cell (i := 0) rfl
  have r1 := b7.cell (i := 1) rfl
  have r2 := b7.cell (i := 2) rfl
  have r3 := b7.cell (i := 3) rfl
  have r4 := b7.cell (i := 4) rfl
  have HO3 := hid_mk o3
  clear hw3 hp7 b7 o3
  refine wp_region_held_drew (S := fun w' => w'.cell? ⟨z, 1, none⟩ = some (.slice (some ⟨gr, off, none⟩) nr rc) ∧ w'.cell? ⟨p7, 0, none⟩ = some (.int .i64 (n : Int)) ∧ w'.cell? ⟨p7, 1, none⟩ = some (.int .i64 0) ∧ w'.cell? ⟨p7, 2, none⟩ = some (.int .i64 0) ∧ w'.cell? ⟨p7, 3, none⟩ = some (.int .i64 0) ∧ w'.cell? ⟨p7, 4, none⟩ = some (.int .i64 0)) (by kernel_rfl) ?hS1 (fun hHeld => ?rest1)
  case hS1 => exact ⟨e2, r0, r1, r2, r3, r4⟩
  refine tk 0 ?_
  refine tk 1 ?_
  refine tk 2 ?_
  refine tk 4 ?_
  refine wpAnyH_ready (rs := [3]) (by kernel_rfl) (by simp) ?_
  refine AllReadyH.cons rfl (fun KK hK => ?_) AllReadyH.nil
  simp only [xa, xb, xc]
  go_simp
  refine HTL.out.mono ?_
  rintro e w4 ⟨ta, tca, cb, cc, tb, tc, rfl, o4, hto, hvb, hcb⟩
  replace o4 : Out 0 0 w3 w4 := ((Out.refl 0 0 w3).drew).trans o4
  refine hK.out _ _ ?hS6 (fun hHeld2 => ?rest6)
  case hS6 => exact ⟨o4.cell e2 (.inr (Nat.zero_le _)), o4.cell r0 (.inr (Nat.zero_le _)), o4.cell r1 (.inr (Nat.zero_le _)), o4.cell r2 (.inr (Nat.zero_le _)), o4.cell r3 (.inr (Nat.zero_le _)), o4.cell r4 (.inr (Nat.zero_le _))⟩
  clear hK KK
  (try clear hHeld)
  have hHeld := hHeld2
  clear hHeld2
  (try simp only [Act.put, xa, xb, xc, xd, xe, xf])
  refine wpAnyH_ready (rs := [5]) (by kernel_rfl) (by simp) ?_
  refine AllReadyH.cons rfl (fun KK hK => ?_) AllReadyH.nil
  simp only [xa, xb, xc]
  have k1 := (HY.out.2.1.kept HO3.out (.inr (Nat.zero_le _))).kept o4 (.inr (Nat.zero_le _))
  have k2 := k1.cell (i := 0) rfl
  have k3 := k1.cell (i := 1) rfl
  have k4 := k1.frozen 0
  have k5 := k1.frozen 1
  go_simp
  obtain ⟨w5, hw5⟩ : ∃ w5, (w4.setCell ⟨z + 1, 0, none⟩ (.slice ta n tca)).setCell ⟨z + 1, 1, none⟩ (.slice (some ⟨cb, 0, none⟩) nr cc) = w5 := ⟨_, rfl⟩
  rw [hw5]
  have x5 : Fx (fun j => j = z + 1) w4 w5 := hw5 ▸ ((Fx.refl (fun j => j = z + 1) w4).set (p := ⟨z + 1, 0, none⟩) (.inl rfl) _).set (p := ⟨z + 1, 1, none⟩) (.inl rfl) _
  have b5 : Bl w5 (z + 1) #[.slice ta n tca, .slice (some ⟨cb, 0, none⟩) nr cc] 26 := hw5 ▸ (k1.set 0 _).set 1 _
  have t5 := hto.fx x5 (fun g hg e => own_ot hto.1 k1 (by decide) (e ▸ hg)) (fun i hi => (hto.2 i hi).ne k1 (by decide))
  have v5 := hvb.fx x5 (hvb.ne k1 (by decide))
  clear hw5 k1 k2 k3 k4 k5 hto hvb
  refine hK.out _ _ ?hS7 (fun hHeld2 => ?rest7)
  case hS7 => exact ⟨x5.cell (o4.cell e2 (.inr (Nat.zero_le _))) (by omega), x5.cell (o4.cell r0 (.inr (Nat.zero_le _))) (by have := HQ.out; omega), x5.cell (o4.cell r1 (.inr (Nat.zero_le _))) (by have := HQ.out; omega), x5.cell (o4.cell r2 (.inr (Nat.zero_le _))) (by have := HQ.out; omega), x5.cell (o4.cell r3 (.inr (Nat.zero_le _))) (by have := HQ.out; omega), x5.cell (o4.cell r4 (.inr (Nat.zero_le _))) (by have := HQ.out; omega)⟩
  clear hK KK
  (try clear hHeld)
  have hHeld := hHeld2
  clear hHeld2
  (try simp only [Act.put, xa, xb, xc, xd, xe, xf])
  refine wpAnyH_ready (rs := [6]) (by kernel_rfl) (by simp) ?_
  refine AllReadyH.cons rfl (fun KK hK => ?_) AllReadyH.nil
  simp only [xa, xb, xc]
  have k1 := ((HY.out.2.2.1.kept HO3.out (.inr (Nat.zero_le _))).kept o4 (.inr (Nat.zero_le _))).fx x5 (by omega)
  have k2 := k1.cell (i := 0) rfl
  have k3 := k1.cell (i := 1) rfl
  have k4 := k1.cell (i := 2) rfl
  have k5 := k1.cell (i := 3) rfl
  have k6 := k1.cell (i := 4) rfl
  have v2 := k1.frozen 0
  have v3 := k1.frozen 1
  have v4 := k1.frozen 2
  have v5' := k1.frozen 3
  have v6 := k1.frozen 4
  go_simp
  obtain ⟨w6, hw6⟩ : ∃ w6, ((((w5.setCell ⟨z + 1 + 1, 0, none⟩ (.int .i64 (n : Int))).setCell ⟨z + 1 + 1, 1, none⟩ (.int .i64 0)).setCell ⟨z + 1 + 1, 2, none⟩ (.int .i64 0)).setCell ⟨z + 1 + 1, 3, none⟩ (.int .i64 0)).setCell ⟨z + 1 + 1, 4, none⟩ (.int .i64 0) = w6 := ⟨_, rfl⟩
  rw [hw6]
  have x6 : Fx (fun j => j = z + 1 + 1) w5 w6 := hw6 ▸ (((((Fx.refl (fun j => j = z + 1 + 1) w5).set (p := ⟨z + 1 + 1, 0, none⟩) (.inl rfl) _).set (p := ⟨z + 1 + 1, 1, none⟩) (.inl rfl) _).set (p := ⟨z + 1 + 1, 2, none⟩) (.inl rfl) _).set (p := ⟨z + 1 + 1, 3, none⟩) (.inl rfl) _).set (p := ⟨z + 1 + 1, 4, none⟩) (.inl rfl) _
  have b6 : Bl w6 (z + 1 + 1) #[.int .i64 (n : Int), .int .i64 0, .int .i64 0, .int .i64 0, .int .i64 0] 34 := hw6 ▸ ((((k1.set 0 _).set 1 _).set 2 _).set 3 _).set 4 _
  have t6 := t5.fx x6 (fun g hg e => own_ot t5.1 k1 (by decide) (e ▸ hg)) (fun i hi => (t5.2 i hi).ne k1 (by decide))
  have v7 := v5.fx x6 (v5.ne k1 (by decide))
  clear hw6 k1 k2 k3 k4 k5 k6 v2 v3 v4 v5' v6
  refine hK.out _ _ ?hS8 (fun hHeld2 => ?rest8)
  case hS8 => exact ⟨x6.cell (x5.cell (o4.cell e2 (.inr (Nat.zero_le _))) (by omega)) (by omega), x6.cell (x5.cell (o4.cell r0 (.inr (Nat.zero_le _))) (by have := HQ.out; omega)) (by have := HQ.out; omega), x6.cell (x5.cell (o4.cell r1 (.inr (Nat.zero_le _))) (by have := HQ.out; omega)) (by have := HQ.out; omega), x6.cell (x5.cell (o4.cell r2 (.inr (Nat.zero_le _))) (by have := HQ.out; omega)) (by have := HQ.out; omega), x6.cell (x5.cell (o4.cell r3 (.inr (Nat.zero_le _))) (by have := HQ.out; omega)) (by have := HQ.out; omega), x6.cell (x5.cell (o4.cell r4 (.inr (Nat.zero_le _))) (by have := HQ.out; omega)) (by have := HQ.out; omega)⟩
  clear hK KK
  (try clear hHeld)
  have hHeld := hHeld2
  clear hHeld2
  (try simp only [Act.put, xa, xb, xc, xd, xe, xf])
  refine tk 7 ?_
  refine wpAnyH_done (by kernel_rfl) ?_ _
  have HE : Hid (Out 0 0 W w6 ∧ Bl w6 (z + 1) #[.slice ta n tca, .slice (some ⟨cb, 0, none⟩) nr cc] 26 ∧ Bl w6 (z + 1 + 1) #[.int .i64 (n : Int), .int .i64 0, .int .i64 0, .int .i64 0, .int .i64 0] 34 ∧ Told w6 ta tca n K nf tb tc l W.heap.size ∧ VB w6 cb r) := by
    obtain ⟨y1, y2, y3, oW, hz, hsz⟩ := HY.out
    have hs3 := (oW.trans HO3.out).size
    exact hid_mk ⟨(((Fx.of_out (S := fun _ => False) ((oW.trans HO3.out).trans o4)).then x5 (fun j h1 h2 => by omega)).then x6 (fun j h1 h2 => by omega)).out (fun _ _ q => q), b5.fx x6 (by omega), b6, ⟨own_base t6.1 hs3, t6.2⟩, v7⟩
  clear hHeld o4 x5 x6 b5 b6 e2 r0 r1 r2 r3 r4 HY HO3 HTL HQ HP2 t5 t6 v5 v7 hcb
  go_wp2
  exact bodyPost_ret (results_gre Tryz.results5 rfl rfl rfl (load_gr HE.out.2.1) (load_rep HE.out.2.2.1)) rfl ⟨_, _, _, _, _, _, rfl, HE.out.1, HE.out.2.2.2.1, HE.out.2.2.2.2⟩
end Go.Proofs.YtocncffplcfpbaaGreatDoor
