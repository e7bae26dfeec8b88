/- the law of chapter 10: stays -/
import Derived.Test.YtghlbdmldahnlaaGreatDoorGsi
namespace Go.Proofs.YtghlbdmldahnlaaGreatDoor
open Go.RowKit
set_option linter.unusedVariables false
set_option linter.unusedSimpArgs false

theorem sl_up {T E : TypeId} {z : Value} {sz by_ : Nat} (hT : Tryz.prog.underlying T = some (.slice (Tryz.prog.elem T))) (hE : Tryz.prog.elem T = E) (hinf : (Tryz.prog.info? E).map (fun i => (i.zero, i.size, i.bytes)) = some (some z, sz, by_)) (g n cap : Nat) (h : n + 1 ≤ cap) (W : World) : (Instr.sliceAt T (.slice (some ⟨g, 0, none⟩) n cap) none (some (.int .i64 ((n : Int) + 1))) none).run Tryz.prog W = .ok (.slice (some ⟨g, 0, none⟩) (n + 1) cap) W :=
  slice_to2 hT hE hinf g n cap (n + 1) h W
theorem w_up {n c : Nat} (h : n ≤ 200000) (hc : n + 1 ≤ c) : IntKind.i64.wrap ((n : Int) + 1) = (n : Int) + 1 ∧ 0 ≤ (n : Int) + 1 ∧ (n : Int) + 1 ≤ (c : Int) ∧ ((n : Int) + 1).toNat = n + 1 ∧ (n : Int) < (n : Int) + 1 := by
  refine ⟨?_, by omega, by omega, by omega, by omega⟩
  rw [IntKind.wrap_i64]; omega
set_option maxRecDepth 100000 in
set_option maxHeartbeats 4000000 in
theorem stays_any {w : World} {B lo gn cn : Nat} {vs : List (Value × Value × Value)} {rv : Value} {ns : List (Int × Int × List Int × List Int × List Int)} {rs : List Int} (h : LnAt w lo gn cn vs rv ns rs) (na ra : Option Addr) (nn nr cn' cr' : Nat) (hg : GrIn w B na ra nn nr ns rs) :
    Calls Tryz.prog 9 #[.agg #[.slice (some ⟨gn, 0, none⟩) nn cn, rv], .agg #[.slice na nn cn', .slice ra nr cr']] w fun e w' => e = .returned (.bool true) ∧ Out 0 0 w w' := by
  obtain ⟨gr, nr2, cr, rfl, r1, hG, hU, ⟨k1, k2⟩, m1, m2⟩ := h.gr hg.2.2.2.2.1 hg.2.2.2.2.2
  obtain rfl : nr = nr2 := by have := hg.2.1; omega
  have hnn := hg.1
  rw [hnn] at hG hU k1 m1
  have bn : nn ≤ 200000 := hU.2.1
  have br : nr ≤ 200000 := by have := hU.2.2.1; omega
  obtain ⟨b1, b2⟩ := two_bl w #[.slice (some ⟨gn, 0, none⟩) nn cn, .slice (some ⟨gr, 0, none⟩) nr cr] #[.slice na nn cn', .slice ra nr cr'] 25 25
  have o0 := ((Out.refl 0 0 w).alloc (.cells #[.slice (some ⟨gn, 0, none⟩) nn cn, .slice (some ⟨gr, 0, none⟩) nr cr] 25)).alloc (.cells #[.slice na nn cn', .slice ra nr cr'] 25)
  obtain ⟨V, hV⟩ : ∃ V, (w.alloc (.cells #[.slice (some ⟨gn, 0, none⟩) nn cn, .slice (some ⟨gr, 0, none⟩) nr cr] 25)).alloc (.cells #[.slice na nn cn', .slice ra nr cr'] 25) = V := ⟨_, rfl⟩
  obtain ⟨z, hz⟩ : ∃ z, w.heap.size = z := ⟨_, rfl⟩
  rw [hV] at b1 b2 o0
  rw [hz] at b1 b2
  have c0 := b1.cell (i := 0) rfl
  have c1 := b1.cell (i := 1) rfl
  have d0 := b2.cell (i := 0) rfl
  have d1 := b2.cell (i := 1) rfl
  replace m1 := o0.cell m1 (.inr (Nat.zero_le _))
  replace m2 := o0.cell m2 (.inr (Nat.zero_le _))
  have HL := hid_mk (And.intro (h.quiet o0) (And.intro hnn (And.intro o0 b1)))
  have HQ : Hid (∀ W, Out 0 0 V W → Calls Tryz.prog 8 #[.agg #[.slice (some ⟨gn, 0, none⟩) nn cn, .slice (some ⟨gr, 0, none⟩) nr cr], .agg #[.slice na nn cn', .slice ra nr cr']] W fun en w' => en = .returned (.bool true) ∧ Out 0 0 W w') :=
    hid_mk fun W o => by
      have := refEqual_any _ _ na ra nn nr cn cr nn nr cn' cr' ns ns rs rs (hG.quiet (o0.trans o)) (hg.quiet (o0.trans o))
      simpa using this
  obtain ⟨w1, w2, w3, w4, w5⟩ := w_up bn k1
  obtain ⟨y1, y2, y3, y4, y5⟩ := w_up br k2
  have HB := hid_mk bn
  have HS := hid_mk hg.2.2.2.2.1
  clear h hg hG hU k1 k2 r1 hnn b1 b2 o0 bn br
  go_enter Tryz.func9, Tryz.ntmps9
  go_upto_region 1 with fail
  (try rw [hV]); (try rw [hz])
  clear hV hz
  refine wp_region_held_drew (S := fun w' => w'.cell? ⟨z, 0, none⟩ = some (.slice (some ⟨gn, 0, none⟩) nn cn) ∧ w'.cell? ⟨z, 1, none⟩ = some (.slice (some ⟨gr, 0, none⟩) nr cr) ∧ w'.cell? ⟨z + 1, 0, none⟩ = some (.slice na nn cn') ∧ w'.cell? ⟨z + 1, 1, none⟩ = some (.slice ra nr cr') ∧ w'.cell? ⟨gn, nn * 5, none⟩ = some (.int .i64 (-77)) ∧ w'.cell? ⟨gr, nr * 2, none⟩ = some (.int .i64 77)) (by kernel_rfl) ?hS1 (fun hHeld => ?rest1)
  case hS1 => exact ⟨c0, c1, d0, d1, m1, m2⟩
  refine tk 0 ?_
  refine tk 1 ?_
  refine wpAnyH_ready (rs := [2]) (by kernel_rfl) (by simp) ?_
  refine AllReadyH.cons rfl (fun KK hK => ?_) AllReadyH.nil
  simp only [xa, xb, xc]
  go_simp
  refine (HQ.out _ ((Out.refl 0 0 V).drew)).mono ?_
  rintro en x1 ⟨rfl, o1⟩
  have oV := ((Out.refl 0 0 V).drew).trans o1
  refine hK.out _ _ ?hS4 (fun hHeld2 => ?rest4)
  case hS4 => exact ⟨oV.cell c0 (.inr (Nat.zero_le _)), oV.cell c1 (.inr (Nat.zero_le _)), oV.cell d0 (.inr (Nat.zero_le _)), oV.cell d1 (.inr (Nat.zero_le _)), oV.cell m1 (.inr (Nat.zero_le _)), oV.cell m2 (.inr (Nat.zero_le _))⟩
  clear hK KK
  (try clear hHeld)
  have hHeld := hHeld2
  clear hHeld2
  (try simp only [Act.put, xa, xb, xc, xd, xe, xf])
  refine tk 3 ?_
  refine tk 4 ?_
  refine tk 5 ?_
  refine tk 6 ?_
  refine tk 7 ?_
  refine tk 8 ?_
  refine tk 9 ?_
  refine tk 10 ?_
  refine tk 11 ?_
  refine tk 12 ?_
  refine tk 13 ?_
  refine tk 14 ?_
  refine tk 15 ?_
  refine tk 16 ?_
  refine tk 17 ?_
  refine tk 18 ?_
  refine tk 19 ?_
  refine tk 20 ?_
  refine tk 21 ?_
  refine tk 22 ?_
  refine tk 23 ?_
  refine tk 24 ?_
  refine tk 25 ?_
  refine tk 26 ?_
  refine tk 27 ?_
  refine tk 28 ?_
  refine tk 29 ?_
  refine tk 30 ?_
  refine tk 31 ?_
  refine tk 32 ?_
  refine tk 33 ?_
  refine tk 34 ?_
  refine tk 35 ?_
  refine wpAnyH_done (by kernel_rfl) ?_ _
  go_wp2_with fail
  have HO1 := hid_mk oV
  clear c0 c1 d0 d1 m1 m2 w1 w2 w3 w4 w5 y1 y2 y3 y4 y5 HQ hHeld o1 oV
  go_loopw [5, 6] (fun okv iv wr => ∃ i : Nat, iv = .int .i64 i ∧ i ≤ nn ∧ okv = .bool true ∧ Out 0 0 V wr) (fun _ iv _ => nn - (intOf iv).toNat)
  case atStart => exact ⟨0, rfl, Nat.zero_le _, rfl, HO1.out⟩
  case round =>
    obtain ⟨i, rfl, him, rfl, ho⟩ := hrel
    have HO := hid_mk ho
    have v0 := ho.cell (HL.out.2.2.2.cell (i := 0) rfl) (.inr (Nat.zero_le _))
    clear ho
    by_cases hgo : i < nn
    · have g1 := lt_i hgo
      obtain ⟨l1, l2⟩ := lt_d hgo
      obtain ⟨⟨a, k, r, f, e⟩, ha⟩ : ∃ x, ns[i]? = some x := ⟨_, List.getElem?_eq_getElem (by have := HL.out.2.1; omega)⟩
      obtain ⟨hr, lr, cr2, hf, lf, cf, he, le, ce, c0, c1, c2, c3, c4, q1, q2, q3, ⟨k1, k2, k3⟩, -, -, m1, m2, m3⟩ := (HL.out.1.quiet HO.out).nd ha
      have nb : (i : Int) ≤ 200000 := by have := HB.out; omega
      obtain ⟨bR, bF, bE⟩ : lr ≤ 200000 ∧ lf ≤ 200000 ∧ le ≤ 200000 := by
        have := HS.out.2 _ (List.mem_of_getElem? ha)
        simp only [] at q1 q2 q3 this
        omega
      obtain ⟨w1, w2, w3, w4, w5⟩ := w_up bR k1
      obtain ⟨y1, y2, y3, y4, y5⟩ := w_up bF k2
      obtain ⟨u1, u2, u3, u4, u5⟩ := w_up bE k3
      simp only [] at c0 c1 c2 c3 c4
      clear ha q1 q2 q3 k1 k2 k3 bR bF bE
      go_upto_region 8 with fail
      obtain ⟨V8, hV8⟩ : ∃ V8, wr.alloc (.cells #[.int .i64 a, .int .i64 k, .slice (some ⟨hr, 0, none⟩) lr cr2, .slice (some ⟨hf, 0, none⟩) lf cf, .slice (some ⟨he, 0, none⟩) le ce] 37) = V8 := ⟨_, rfl⟩
      obtain ⟨G, hG⟩ : ∃ G, wr.heap.size = G := ⟨_, rfl⟩
      have o8 : Out 0 0 wr V8 := hV8 ▸ (Out.refl 0 0 wr).alloc _
      have b8 : Bl V8 G #[.int .i64 a, .int .i64 k, .slice (some ⟨hr, 0, none⟩) lr cr2, .slice (some ⟨hf, 0, none⟩) lf cf, .slice (some ⟨he, 0, none⟩) le ce] 37 := by rw [← hV8, ← hG]; exact Bl.new _ _ _
      rw [hV8]
      (try rw [hG])
      clear hV8 hG
      have e2 := b8.cell (i := 2) rfl
      have e3 := b8.cell (i := 3) rfl
      have e4 := b8.cell (i := 4) rfl
      replace m1 := o8.cell m1 (.inr (Nat.zero_le _))
      replace m2 := o8.cell m2 (.inr (Nat.zero_le _))
      replace m3 := o8.cell m3 (.inr (Nat.zero_le _))
      have HO8 := hid_mk (HO.out.trans o8)
      clear b8 o8 c0 c1 c2 c3 c4 v0
      refine wp_region_held_drew (S := fun w' => w'.cell? ⟨G, 2, none⟩ = some (.slice (some ⟨hr, 0, none⟩) lr cr2) ∧ w'.cell? ⟨G, 3, none⟩ = some (.slice (some ⟨hf, 0, none⟩) lf cf) ∧ w'.cell? ⟨G, 4, none⟩ = some (.slice (some ⟨he, 0, none⟩) le ce) ∧ w'.cell? ⟨hr, lr, none⟩ = some (.int .i64 (-77)) ∧ w'.cell? ⟨hf, lf * 2, none⟩ = some (.int .i64 77) ∧ w'.cell? ⟨he, le * 4, none⟩ = some (.int .i64 77)) (by kernel_rfl) ?hS38 (fun hHeld => ?rest38)
      case hS38 => exact ⟨e2, e3, e4, m1, m2, m3⟩
      refine tk 0 ?_
      refine tk 1 ?_
      refine tk 2 ?_
      refine tk 3 ?_
      refine tk 4 ?_
      refine tk 5 ?_
      refine tk 6 ?_
      refine tk 7 ?_
      refine tk 8 ?_
      refine tk 9 ?_
      refine tk 10 ?_
      refine tk 11 ?_
      refine tk 12 ?_
      refine tk 13 ?_
      refine tk 14 ?_
      refine tk 15 ?_
      refine tk 16 ?_
      refine tk 17 ?_
      refine tk 18 ?_
      refine tk 19 ?_
      refine tk 20 ?_
      refine tk 21 ?_
      refine tk 22 ?_
      refine tk 23 ?_
      refine tk 24 ?_
      refine tk 25 ?_
      refine tk 26 ?_
      refine tk 27 ?_
      refine tk 28 ?_
      refine tk 29 ?_
      refine tk 30 ?_
      refine tk 31 ?_
      refine tk 32 ?_
      refine tk 33 ?_
      refine tk 34 ?_
      refine tk 35 ?_
      refine tk 36 ?_
      refine tk 37 ?_
      refine tk 38 ?_
      refine tk 39 ?_
      refine tk 40 ?_
      refine tk 41 ?_
      refine tk 42 ?_
      refine tk 43 ?_
      refine tk 44 ?_
      refine tk 45 ?_
      refine tk 46 ?_
      refine tk 47 ?_
      refine tk 48 ?_
      refine tk 49 ?_
      refine wpAnyH_done (by kernel_rfl) ?_ _
      go_wp2_with fail
      go_roundw
      case rel => exact ⟨i + 1, by go_num, hgo, rfl, HO8.out.drew⟩
      case measure => simp [intOf]; omega
    · obtain rfl : nn = i := by omega
      have m1 : decide ((nn : Int) < (nn : Int)) = false := by simp
      clear hgo him
      go_wp2_with fail
      go_ret
      exact ⟨rfl, HL.out.2.2.1.trans HO.out⟩
end Go.Proofs.YtghlbdmldahnlaaGreatDoor
