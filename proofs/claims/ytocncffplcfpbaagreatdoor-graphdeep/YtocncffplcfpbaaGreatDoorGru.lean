/- graph: Collect of alive's graph -/
import Derived.Test.YtocncffplcfpbaaGreatDoorGrt
namespace Go.Proofs.YtocncffplcfpbaaGreatDoor
open Go.RowKit Go.MapKept
set_option linter.unusedVariables false
set_option linter.unusedSimpArgs false

theorem results_gre {P : Program} {fn : Func} {p q u : Tmp} {a b : TypeId} {t : Array Value} {w : World} {v1 v2 v3 : Value} {A1 A2 : Addr} (hr : fn.results = #[.cell p a, .cell q b, .tmp u]) (hp : t.getD p undef = .pointer (some A1)) (hq : t.getD q undef = .pointer (some A2)) (hu : t.getD u undef = v3) (r1 : (loadVar a A1).run P w = .ok v1 w) (r2 : (loadVar b A2).run P w = .ok v2 w) : (results fn t).run P w = .ok (.tuple #[v1, v2, v3]) w := by
  have hp' : t[p]?.getD undef = .pointer (some A1) := by simpa using hp
  have hq' : t[q]?.getD undef = .pointer (some A2) := by simpa using hq
  have hu' : t[u]?.getD undef = v3 := by simpa using hu
  simp only [results, hr]
  simp [Sem.run_bind, hp', hq', hu', asAddr, r1, r2, Result.andThen]
set_option maxRecDepth 100000 in
set_option maxHeartbeats 8000000 in
theorem collect_alive {W : World} (hT : Tab W) {gn gr gw gb : Nat} (h : AG W gn gr gw gb) : Calls Tryz.prog 5 #[agv gn gr] W fun e w' => ∃ a c r rc, e = .returned (.tuple #[.agg #[.slice (some ⟨a, 0, none⟩) 1 c, .slice (some ⟨r, 0, none⟩) 1 rc], .agg #[.int .i64 1, .int .i64 1, .int .i64 1, .int .i64 0, .int .i64 0], .int .i64 0]) ∧ Out 0 0 W w' := by
  obtain ⟨W0, hW0⟩ : ∃ W0, ((W.alloc (.cells #[.slice (some ⟨gn, 0, none⟩) 2 2, .slice (some ⟨gr, 0, none⟩) 1 1] 26)).alloc (.cells #[.slice none 0 0, .slice none 0 0] 26)).alloc (.cells #[.int .i64 0, .int .i64 0, .int .i64 0, .int .i64 0, .int .i64 0] 34) = W0 := ⟨_, rfl⟩
  obtain ⟨z, hz⟩ : ∃ z, W.heap.size = z := ⟨_, rfl⟩
  have o0 : Out 0 0 W W0 := hW0 ▸ (((Out.refl 0 0 W).alloc _).alloc _).alloc _
  have b0 : Bl W0 z #[.slice (some ⟨gn, 0, none⟩) 2 2, .slice (some ⟨gr, 0, none⟩) 1 1] 26 := by rw [← hW0, ← hz]; exact ((Bl.new _ _ _).alloc _).alloc _
  have b1 : Bl W0 (z + 1) #[.slice none 0 0, .slice none 0 0] 26 := by
    have := (Bl.new (W.alloc (.cells #[.slice (some ⟨gn, 0, none⟩) 2 2, .slice (some ⟨gr, 0, none⟩) 1 1] 26)) #[.slice none 0 0, .slice none 0 0] 26).alloc (.cells #[.int .i64 0, .int .i64 0, .int .i64 0, .int .i64 0, .int .i64 0] 34)
    rwa [size_alloc, hz, hW0] at this
  have b2 : Bl W0 (z + 1 + 1) #[.int .i64 0, .int .i64 0, .int .i64 0, .int .i64 0, .int .i64 0] 34 := by
    have := Bl.new ((W.alloc (.cells #[.slice (some ⟨gn, 0, none⟩) 2 2, .slice (some ⟨gr, 0, none⟩) 1 1] 26)).alloc (.cells #[.slice none 0 0, .slice none 0 0] 26)) #[.int .i64 0, .int .i64 0, .int .i64 0, .int .i64 0, .int .i64 0] 34
    rwa [size_alloc, size_alloc, hz, hW0] at this
  have H := hid_mk (load_alive (hT.quiet o0) (h.quiet o0))
  have HO := hid_mk (And.intro o0 (And.intro b0 (And.intro b1 (And.intro b2 (And.intro (h.quiet o0) hz)))))
  have e0 := b0.cell (i := 0) rfl
  have e1 := b0.cell (i := 1) rfl
  clear hT h o0 b0 b1 b2
  go_enter Tryz.func5, Tryz.ntmps5
  go_wp2_with fail
  (try rw [hW0])
  clear hW0 hz
  refine H.out.mono ?_
  rintro e w1 ⟨hh, m, lo, b, rfl, o1, l1, l2, l3, l4, hL⟩
  obtain ⟨o0, b0, b1, b2, hA, hz⟩ := HO.out
  obtain ⟨c0, c1, c2, c3, c4, c5⟩ := (hA.quiet o1).cells
  obtain ⟨p1, p2, p3, p4, p5⟩ := loaded_parts hL
  replace e1 := (b0.kept o1 (.inr (Nat.zero_le _))).cell (i := 1) rfl
  have hgw := cell_lt hA.cells.1
  have HC := hid_mk (collect_one (rc := 1) (n2 := b 1) ⟨p1, p2, by omega, by decide, c0, c1, c2, c3, l4, by omega, by omega, by omega, by omega⟩ c4 c5)
  have H1 := hid_mk (And.intro o1 (And.intro p1 (And.intro l1 (And.intro l2 (And.intro l4 (And.intro (Nat.le_trans l3 p3) (And.intro hA (Nat.ne_of_lt (Nat.lt_of_lt_of_le p5 p3)))))))))
  clear o1 H hA c0 c1 c2 c3 c4 c5 p1 p2 p3 p4 p5 hL o0 b0 b1 b2 hz l1 l2 l3 l4 e0 hgw
  go_wp2_with fail
  refine HC.out.mono ?_
  rintro e w2 ⟨rfl, nf, n3, x2, m2, n6, n7⟩
  obtain ⟨o1, p1, l1, l2, l4, lb, hA, hnb⟩ := H1.out
  obtain ⟨o0, b0, b1, b2, hA0, hz⟩ := HO.out
  have hz0 := b0.lt
  have hz1 := b1.lt
  have hz2 := b2.lt
  have hgr := cell_lt hA.cells.2.2.2.2.1
  have y1 := (b0.kept o1 (.inr (Nat.zero_le _))).fx x2 (by omega)
  have y2 := (b1.kept o1 (.inr (Nat.zero_le _))).fx x2 (by omega)
  have y3 := (b2.kept o1 (.inr (Nat.zero_le _))).fx x2 (by omega)
  have oW : Out 0 0 W0 w2 := ((Fx.of_out (S := fun _ => False) o1).then x2 (fun j h1 h2 => by omega)).out (fun _ _ q => q)
  have HP2 : Hid (HP w2 hh m 2 (fS (b 0) (b 1) true) ∧ Bl w2 (b 0) (ndc 8 (.slice none 0 0) (.slice (some ⟨nf, 0, none⟩) 2 2)) 94 ∧ VsAt w2 (some ⟨nf, 0, none⟩) [(3, 4), (3, 0)] ∧ VsAt w2 (some ⟨gr, 0, none⟩) [(2, 1)]) := hid_mk ⟨⟨p1.1.fx x2 (by omega), m2⟩, n6, n7, hA.2.quiet oW⟩
  have HY := hid_mk (And.intro y1 (And.intro y2 (And.intro y3 (And.intro (o0.trans oW) hz))))
  have e2 := y1.cell (i := 1) rfl
  clear o1 p1 l1 l2 l4 lb hA hnb o0 b0 b1 b2 hA0 hz0 hz1 hz2 hgr y1 y2 y3 oW x2 m2 n3 n6 n7 H1 HO HC e1 hz
  go_upto_region 5 with fail
  obtain ⟨w3, hw3⟩ : ∃ w3, w2.alloc (.cells #[.int .i64 1, .int .i64 1, .int .i64 1, .int .i64 0, .int .i64 0] 34) = w3 := ⟨_, rfl⟩
  obtain ⟨p7, hp7⟩ : ∃ p7, w2.heap.size = p7 := ⟨_, rfl⟩
  have o3 : Out 0 0 w2 w3 := hw3 ▸ (Out.refl 0 0 w2).alloc _
  have b7 : Bl w3 p7 #[.int .i64 1, .int .i64 1, .int .i64 1, .int .i64 0, .int .i64 0] 34 := by rw [← hw3, ← hp7]; exact Bl.new _ _ _
  rw [hw3, hp7]
  have HQ : Hid (z < p7 ∧ z + 1 < p7 ∧ z + 1 + 1 < p7) := by
    obtain ⟨y1, y2, y3, -⟩ := HY.out
    have := y1.lt; have := y2.lt; have := y3.lt
    exact hid_mk (by omega)
  have HTL := hid_mk (htell_one (la := 2) (HP2.out.1.quiet o3.drew) (HP2.out.2.1.kept o3.drew (.inr (Nat.zero_le _))) (l := [(3, 4), (3, 0)]) rfl (HP2.out.2.2.1.quiet o3.drew) (HP2.out.2.2.2.quiet o3.drew))
  replace e2 := o3.cell e2 (.inr (Nat.zero_le _))
  have r0 := b7.cell (i := 0) rfl
  have r1 := b7.cell (i := 1) rfl
  have r2 := b7.cell (i := 2) rfl
  have r3 := b7.cell (i := 3) rfl
  have r4 := b7.cell (i := 4) rfl
  have HO3 := hid_mk o3
  clear hw3 hp7 b7 o3
  refine wp_region_held_drew (S := fun w' => w'.cell? ⟨z, 1, none⟩ = some (.slice (some ⟨gr, 0, none⟩) 1 1) ∧ w'.cell? ⟨p7, 0, none⟩ = some (.int .i64 1) ∧ w'.cell? ⟨p7, 1, none⟩ = some (.int .i64 1) ∧ w'.cell? ⟨p7, 2, none⟩ = some (.int .i64 1) ∧ w'.cell? ⟨p7, 3, none⟩ = some (.int .i64 0) ∧ w'.cell? ⟨p7, 4, none⟩ = some (.int .i64 0)) (by kernel_rfl) ?hS1 (fun hHeld => ?rest1)
  case hS1 => exact ⟨e2, r0, r1, r2, r3, r4⟩
  refine tk 0 ?_
  refine tk 1 ?_
  refine tk 2 ?_
  refine tk 4 ?_
  refine wpAnyH_ready (rs := [3]) (by kernel_rfl) (by simp) ?_
  refine AllReadyH.cons rfl (fun KK hK => ?_) AllReadyH.nil
  simp only [xa, xb, xc]
  go_simp
  refine HTL.out.mono ?_
  rintro e w4 ⟨ta, tc, tr, trc, rfl, o4⟩
  replace o4 : Out 0 0 w3 w4 := ((Out.refl 0 0 w3).drew).trans o4
  refine hK.out _ _ ?hS6 (fun hHeld2 => ?rest6)
  case hS6 => exact ⟨o4.cell e2 (.inr (Nat.zero_le _)), o4.cell r0 (.inr (Nat.zero_le _)), o4.cell r1 (.inr (Nat.zero_le _)), o4.cell r2 (.inr (Nat.zero_le _)), o4.cell r3 (.inr (Nat.zero_le _)), o4.cell r4 (.inr (Nat.zero_le _))⟩
  clear hK KK
  (try clear hHeld)
  have hHeld := hHeld2
  clear hHeld2
  (try simp only [Act.put, xa, xb, xc, xd, xe, xf])
  refine wpAnyH_ready (rs := [5]) (by kernel_rfl) (by simp) ?_
  refine AllReadyH.cons rfl (fun KK hK => ?_) AllReadyH.nil
  simp only [xa, xb, xc]
  have k1 := (HY.out.2.1.kept HO3.out (.inr (Nat.zero_le _))).kept o4 (.inr (Nat.zero_le _))
  have k2 := k1.cell (i := 0) rfl
  have k3 := k1.cell (i := 1) rfl
  have k4 := k1.frozen 0
  have k5 := k1.frozen 1
  go_simp
  obtain ⟨w5, hw5⟩ : ∃ w5, (w4.setCell ⟨z + 1, 0, none⟩ (.slice (some ⟨ta, 0, none⟩) 1 tc)).setCell ⟨z + 1, 1, none⟩ (.slice (some ⟨tr, 0, none⟩) 1 trc) = w5 := ⟨_, rfl⟩
  rw [hw5]
  have x5 : Fx (fun j => j = z + 1) w4 w5 := hw5 ▸ ((Fx.refl (fun j => j = z + 1) w4).set (p := ⟨z + 1, 0, none⟩) (.inl rfl) _).set (p := ⟨z + 1, 1, none⟩) (.inl rfl) _
  have b5 : Bl w5 (z + 1) #[.slice (some ⟨ta, 0, none⟩) 1 tc, .slice (some ⟨tr, 0, none⟩) 1 trc] 26 := hw5 ▸ (k1.set 0 _).set 1 _
  clear hw5 k1 k2 k3 k4 k5
  refine hK.out _ _ ?hS7 (fun hHeld2 => ?rest7)
  case hS7 => exact ⟨x5.cell (o4.cell e2 (.inr (Nat.zero_le _))) (by omega), x5.cell (o4.cell r0 (.inr (Nat.zero_le _))) (by have := HQ.out; omega), x5.cell (o4.cell r1 (.inr (Nat.zero_le _))) (by have := HQ.out; omega), x5.cell (o4.cell r2 (.inr (Nat.zero_le _))) (by have := HQ.out; omega), x5.cell (o4.cell r3 (.inr (Nat.zero_le _))) (by have := HQ.out; omega), x5.cell (o4.cell r4 (.inr (Nat.zero_le _))) (by have := HQ.out; omega)⟩
  clear hK KK
  (try clear hHeld)
  have hHeld := hHeld2
  clear hHeld2
  (try simp only [Act.put, xa, xb, xc, xd, xe, xf])
  refine wpAnyH_ready (rs := [6]) (by kernel_rfl) (by simp) ?_
  refine AllReadyH.cons rfl (fun KK hK => ?_) AllReadyH.nil
  simp only [xa, xb, xc]
  have k1 := ((HY.out.2.2.1.kept HO3.out (.inr (Nat.zero_le _))).kept o4 (.inr (Nat.zero_le _))).fx x5 (by omega)
  have k2 := k1.cell (i := 0) rfl
  have k3 := k1.cell (i := 1) rfl
  have k4 := k1.cell (i := 2) rfl
  have k5 := k1.cell (i := 3) rfl
  have k6 := k1.cell (i := 4) rfl
  have v2 := k1.frozen 0
  have v3 := k1.frozen 1
  have v4 := k1.frozen 2
  have v5 := k1.frozen 3
  have v6 := k1.frozen 4
  go_simp
  obtain ⟨w6, hw6⟩ : ∃ w6, ((((w5.setCell ⟨z + 1 + 1, 0, none⟩ (.int .i64 1)).setCell ⟨z + 1 + 1, 1, none⟩ (.int .i64 1)).setCell ⟨z + 1 + 1, 2, none⟩ (.int .i64 1)).setCell ⟨z + 1 + 1, 3, none⟩ (.int .i64 0)).setCell ⟨z + 1 + 1, 4, none⟩ (.int .i64 0) = w6 := ⟨_, rfl⟩
  rw [hw6]
  have x6 : Fx (fun j => j = z + 1 + 1) w5 w6 := hw6 ▸ (((((Fx.refl (fun j => j = z + 1 + 1) w5).set (p := ⟨z + 1 + 1, 0, none⟩) (.inl rfl) _).set (p := ⟨z + 1 + 1, 1, none⟩) (.inl rfl) _).set (p := ⟨z + 1 + 1, 2, none⟩) (.inl rfl) _).set (p := ⟨z + 1 + 1, 3, none⟩) (.inl rfl) _).set (p := ⟨z + 1 + 1, 4, none⟩) (.inl rfl) _
  have b6 : Bl w6 (z + 1 + 1) #[.int .i64 1, .int .i64 1, .int .i64 1, .int .i64 0, .int .i64 0] 34 := hw6 ▸ ((((k1.set 0 _).set 1 _).set 2 _).set 3 _).set 4 _
  clear hw6 k1 k2 k3 k4 k5 k6 v2 v3 v4 v5 v6
  refine hK.out _ _ ?hS8 (fun hHeld2 => ?rest8)
  case hS8 => exact ⟨x6.cell (x5.cell (o4.cell e2 (.inr (Nat.zero_le _))) (by omega)) (by omega), x6.cell (x5.cell (o4.cell r0 (.inr (Nat.zero_le _))) (by have := HQ.out; omega)) (by have := HQ.out; omega), x6.cell (x5.cell (o4.cell r1 (.inr (Nat.zero_le _))) (by have := HQ.out; omega)) (by have := HQ.out; omega), x6.cell (x5.cell (o4.cell r2 (.inr (Nat.zero_le _))) (by have := HQ.out; omega)) (by have := HQ.out; omega), x6.cell (x5.cell (o4.cell r3 (.inr (Nat.zero_le _))) (by have := HQ.out; omega)) (by have := HQ.out; omega), x6.cell (x5.cell (o4.cell r4 (.inr (Nat.zero_le _))) (by have := HQ.out; omega)) (by have := HQ.out; omega)⟩
  clear hK KK
  (try clear hHeld)
  have hHeld := hHeld2
  clear hHeld2
  (try simp only [Act.put, xa, xb, xc, xd, xe, xf])
  refine tk 7 ?_
  refine wpAnyH_done (by kernel_rfl) ?_ _
  have HE : Hid (Out 0 0 W w6 ∧ Bl w6 (z + 1) #[.slice (some ⟨ta, 0, none⟩) 1 tc, .slice (some ⟨tr, 0, none⟩) 1 trc] 26 ∧ Bl w6 (z + 1 + 1) #[.int .i64 1, .int .i64 1, .int .i64 1, .int .i64 0, .int .i64 0] 34) := by
    obtain ⟨y1, y2, y3, oW, hz⟩ := HY.out
    exact hid_mk ⟨(((Fx.of_out (S := fun _ => False) ((oW.trans HO3.out).trans o4)).then x5 (fun j h1 h2 => by omega)).then x6 (fun j h1 h2 => by omega)).out (fun _ _ q => q), b5.fx x6 (by omega), b6⟩
  clear hHeld o4 x5 x6 b5 b6 e2 r0 r1 r2 r3 r4 HY HO3 HTL HQ HP2
  go_wp2
  exact bodyPost_ret (results_gre Tryz.results5 rfl rfl rfl (load_gr HE.out.2.1) (load_rep HE.out.2.2)) rfl ⟨_, _, _, _, rfl, HE.out.1⟩
end Go.Proofs.YtocncffplcfpbaaGreatDoor
