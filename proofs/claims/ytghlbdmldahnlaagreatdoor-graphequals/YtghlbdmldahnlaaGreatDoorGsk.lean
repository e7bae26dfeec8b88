/- the law of chapter 10: turned -/
import Derived.Test.YtghlbdmldahnlaaGreatDoorGsj
import Derived.HandedShaped
namespace Go.Proofs.YtghlbdmldahnlaaGreatDoor
open Go.RowKit
set_option linter.unusedVariables false
set_option linter.unusedSimpArgs false

/-- numbers alone have changed, in blocks from lo on -/
def TQ (lo : Nat) (V W : World) : Prop := Tn V W ∧ Fx (fun k => lo ≤ k) V W
theorem TQ.of_out {lo : Nat} {V W : World} (o : Out 0 0 V W) : TQ lo V W := ⟨.of_out o, .of_out o⟩
theorem TQ.out {lo : Nat} {V W X : World} (h : TQ lo V W) (o : Out 0 0 W X) : TQ lo V X := ⟨h.1.trans (.of_out o), Fx.then h.2 (Fx.of_out (S := fun k => lo ≤ k) o) fun k _ q => q⟩
theorem TQ.set {lo : Nat} {V W : World} {g j : Nat} {x : Int} (h : TQ lo V W) (hg : lo ≤ g) (hc : W.cell? ⟨g, j, none⟩ = some (.int .i64 x)) (y : Int) : TQ lo V (W.setCell ⟨g, j, none⟩ (.int .i64 y)) :=
  ⟨h.1.trans (Tn.set hc y), h.2.set (p := ⟨g, j, none⟩) (.inl hg) _⟩
theorem TQ.set2 {lo : Nat} {V W : World} {g j : Nat} {x x' : Int} (h : TQ lo V W) (hg : lo ≤ g) (hc : W.cell? ⟨g, j, none⟩ = some (.int .i64 x)) (hc' : W.cell? ⟨g, j + 1, none⟩ = some (.int .i64 x')) (y y' : Int) : TQ lo V ((W.setCell ⟨g, j, none⟩ (.int .i64 y)).setCell ⟨g, j + 1, none⟩ (.int .i64 y')) := by
  obtain ⟨x2, hx⟩ := someInt_setCell ⟨x', hc'⟩ ⟨g, j, none⟩ y
  exact (h.set hg hc y).set hg hx y'
theorem TQ.sl {lo : Nat} {V W : World} (h : TQ lo V W) {g j n c : Nat} {p : Option Addr} (hg : g < V.heap.size) (hc : V.cell? ⟨g, j, none⟩ = some (.slice p n c)) : W.cell? ⟨g, j, none⟩ = some (.slice p n c) := (h.1.2 g j hg).2.2 _ _ _ hc
theorem m_up {n m : Nat} (h : n = m + 1) (hs : n ≤ 200000) : IntKind.i64.wrap ((n : Int) - 1) = (m : Int) ∧ (m : Int) < (n : Int) := by
  refine ⟨?_, by omega⟩
  rw [IntKind.wrap_i64]; omega
theorem IU.two {w : World} {lo g n k : Nat} (h : IU w lo g (n * 2)) (hk : k < n) : lo ≤ g ∧ (∃ x y, w.cell? ⟨g, k * 2, none⟩ = some (.int .i64 x) ∧ w.cell? ⟨g, k * 2 + 1, none⟩ = some (.int .i64 y)) ∧ w.frozen? ⟨g, k * 2, none⟩ = false ∧ w.frozen? ⟨g, k * 2 + 1, none⟩ = false := by
  obtain ⟨x, hx⟩ := h.2.2.1 (k * 2) (by omega)
  obtain ⟨y, hy⟩ := h.2.2.1 (k * 2 + 1) (by omega)
  exact ⟨h.1, ⟨x, y, hx, hy⟩, h.2.2.2 _, h.2.2.2 _⟩
theorem IU.four {w : World} {lo g n k : Nat} (h : IU w lo g (n * 4)) (hk : k < n) : lo ≤ g ∧ (∃ x y, w.cell? ⟨g, k * 4 + 2, none⟩ = some (.int .i64 x) ∧ w.cell? ⟨g, k * 4 + 2 + 1, none⟩ = some (.int .i64 y)) ∧ w.frozen? ⟨g, k * 4 + 2, none⟩ = false ∧ w.frozen? ⟨g, k * 4 + 2 + 1, none⟩ = false := by
  obtain ⟨x, hx⟩ := h.2.2.1 (k * 4 + 2) (by omega)
  obtain ⟨y, hy⟩ := h.2.2.1 (k * 4 + 2 + 1) (by omega)
  exact ⟨h.1, ⟨x, y, hx, hy⟩, h.2.2.2 _, h.2.2.2 _⟩
theorem cutT2 {P : Program} {K : Go.Act → World → Prop} {Q : Exit → Go.Act → World → Prop} {x : Code} {a : Go.Act} {w : World} (F : Nat → World → Prop) (h1 : (∀ (v9 v10 v11 v12 v13 v14 v15 v16 v17 : Value) (G : Nat) (W : World), F G W → K ((((((((((a.put (some 9) v9).put (some 10) v10).put (some 11) v11).put (some 12) v12).put (some 13) v13).put (some 14) v14).put (some 15) v15).put (some 16) v16).put (some 17) v17).put (some 4) (.pointer (some ⟨G, 0, none⟩))) W) → x.wp P (Exit.then K Q) a w) (h2 : ∀ (v9 v10 v11 v12 v13 v14 v15 v16 v17 : Value) (G : Nat) (W : World), F G W → K ((((((((((a.put (some 9) v9).put (some 10) v10).put (some 11) v11).put (some 12) v12).put (some 13) v13).put (some 14) v14).put (some 15) v15).put (some 16) v16).put (some 17) v17).put (some 4) (.pointer (some ⟨G, 0, none⟩))) W) : x.wp P (Exit.then K Q) a w := h1 h2
set_option maxRecDepth 100000 in
set_option maxHeartbeats 4000000 in
theorem turned_any {w : World} {lo gn gr nn nr : Nat} (hU : GU w lo gn gr nn nr) (hlo : lo ≤ w.heap.size) (cn cr : Nat) (at_ : Int) :
    Calls Tryz.prog 10 #[.agg #[.slice (some ⟨gn, 0, none⟩) nn cn, .slice (some ⟨gr, 0, none⟩) nr cr], .int .i64 at_] w fun e w' => e = .returned (.tuple #[]) ∧ GU w' lo gn gr nn nr ∧ Fx (fun k => lo ≤ k) w w' ∧ Tn w w' := by
  have b1 := Bl.new w #[.slice (some ⟨gn, 0, none⟩) nn cn, .slice (some ⟨gr, 0, none⟩) nr cr] 25
  have o0 := (Out.refl 0 0 w).alloc (.cells #[.slice (some ⟨gn, 0, none⟩) nn cn, .slice (some ⟨gr, 0, none⟩) nr cr] 25)
  obtain ⟨V, hV⟩ : ∃ V, w.alloc (.cells #[.slice (some ⟨gn, 0, none⟩) nn cn, .slice (some ⟨gr, 0, none⟩) nr cr] 25) = V := ⟨_, rfl⟩
  obtain ⟨z, hz⟩ : ∃ z, w.heap.size = z := ⟨_, rfl⟩
  rw [hV] at b1 o0
  rw [hz] at b1
  have HU := hid_mk (hU.quiet o0)
  have HZ := hid_mk b1.lt
  have HT : Hid (∀ W, TQ lo V W → GU W lo gn gr nn nr ∧ Fx (fun k => lo ≤ k) w W ∧ Tn w W) := hid_mk fun W h => ⟨(hU.quiet o0).tn h.1, Fx.then (Fx.of_out o0) h.2 fun k _ q => q, (Tn.of_out o0).trans h.1⟩
  have c0 := b1.cell (i := 0) rfl
  have c1 := b1.cell (i := 1) rfl
  have C0 := hid_mk c0
  have C1 := hid_mk c1
  have bn : nn ≤ 200000 := hU.2.1
  have br : nr ≤ 200000 := by have := hU.2.2.1; omega
  clear b1 hU
  by_cases hn0 : nn = 0
  · subst hn0
    go_enter Tryz.func10, Tryz.ntmps10
    go_upto_region 1 with fail
    (try rw [hV]); (try rw [hz])
    clear hV hz
    go_wp2_with fail
    exact bodyPost_ret (results_none Tryz.results10 _ _ _) rfl ⟨rfl, HT.out _ (.of_out (Out.refl _ _ _))⟩
  · obtain ⟨m, hm⟩ : ∃ m, nn = m + 1 := ⟨nn - 1, by omega⟩
    obtain ⟨p1, p2⟩ := m_up hm bn
    have p3 : (0 : Int) < (nn : Int) := by omega
    have p5 : 0 < nn := by omega
    have p4 : ((nn : Int) == 0) = false := by simp; omega
    obtain ⟨k, hk⟩ : ∃ k, wiK at_ nn = k := ⟨_, rfl⟩
    have hkn : k < nn := hk ▸ wiK_lt (by omega) bn
    have HW : Hid (∀ W, Calls Tryz.prog 20 #[.int .i64 at_, .int .i64 (nn : Int)] W fun e w' => e = .returned (.int .i64 (k : Int)) ∧ w' = W) := hid_mk fun W => hk ▸ within_any at_ nn (by omega) bn
    have hkl := lt_i hkn
    obtain ⟨a, kd, hr, lr, cr2, hf, lf, cf, he, le, ce, n0, n1, n2, n3, n4, b1, b2, b3, i1, i2, i3⟩ := HU.out.2.2.2.1 k hkn
    obtain ⟨id0, hid0⟩ : ∃ x, V.cell? ⟨gn, 0, none⟩ = some (.int .i64 x) := by
      obtain ⟨a', _, _, _, _, _, _, _, _, _, _, q, -⟩ := HU.out.2.2.2.1 0 (by omega)
      exact ⟨a', by simpa using q⟩
    obtain ⟨idm, hidm⟩ : ∃ x, V.cell? ⟨gn, m * 5, none⟩ = some (.int .i64 x) := by
      obtain ⟨a', _, _, _, _, _, _, _, _, _, _, q, -⟩ := HU.out.2.2.2.1 m (by omega)
      exact ⟨a', q⟩
    have HI := hid_mk (And.intro i1 (And.intro i2 i3))
    have HN := hid_mk (And.intro hid0 hidm)
    have HM := hid_mk (And.intro hm (And.intro bn br))
    have HBd := hid_mk (And.intro b1 (And.intro b2 b3))
    have HGN := hid_mk HU.out.1
    clear i1 i2 i3 hid0 hidm hm b1 b2 b3 hn0 hk hkn bn br
    go_enter Tryz.func10, Tryz.ntmps10
    go_upto_region 2 with fail
    (try rw [hV]); (try rw [hz])
    clear hV hz
    rename_i K1 hK
    obtain ⟨V0, hV0⟩ : ∃ V0, V.drew = V0 := ⟨_, rfl⟩
    have oD : Out 0 0 V V0 := hV0 ▸ (Out.refl 0 0 V).drew
    refine cutT2 (fun G W => Bl W G #[.int .i64 a, .int .i64 kd, .slice (some ⟨hr, 0, none⟩) lr cr2, .slice (some ⟨hf, 0, none⟩) lf cf, .slice (some ⟨he, 0, none⟩) le ce] 37 ∧ Out 0 0 V W) ?_ ?_
    · intro hK0
      (try simp only [Act.put, List.getElem_toArray, List.getElem_cons_zero, List.getElem_cons_succ, List.setIfInBounds_toArray, List.set_cons_zero, List.set_cons_succ] at hK0)
      have HK := hid_mk hK0
      clear hK0 hK
      refine wp_region_T (S := fun w' => w'.cell? ⟨z, 0, none⟩ = some (.slice (some ⟨gn, 0, none⟩) nn cn) ∧ w'.cell? ⟨gn, k * 5, none⟩ = some (.int .i64 a) ∧ w'.cell? ⟨gn, k * 5 + 1, none⟩ = some (.int .i64 kd) ∧ w'.cell? ⟨gn, k * 5 + 2, none⟩ = some (.slice (some ⟨hr, 0, none⟩) lr cr2) ∧ w'.cell? ⟨gn, k * 5 + 3, none⟩ = some (.slice (some ⟨hf, 0, none⟩) lf cf) ∧ w'.cell? ⟨gn, k * 5 + 4, none⟩ = some (.slice (some ⟨he, 0, none⟩) le ce)) (z := 10) (by kernel_rfl) ?hS7001 (fun hHeld => ?rest7001)
      case hS7001 => exact ⟨c0, n0, n1, n2, n3, n4⟩
      rw [hV0] at hHeld
      (try rw [hV0])
      clear hV0
      refine tkT 0 ?_
      refine tkT 1 ?_
      refine tkT 2 ?_
      refine tkT 3 ?_
      refine tkT 4 ?_
      refine tkT 5 ?_
      refine wpAnyT_two (i := 6) (j := 9) (by kernel_rfl) rfl rfl (fun KK hK => ?_) (fun KK hK => ?_)
      · simp only [xa, xb, xc]
        go_simp
        refine (HW.out _).mono ?_
        rintro en x1 ⟨rfl, hx1⟩
        rw [hx1]
        clear hx1 x1
        refine hK.out _ _ ?hS7008 (fun hHeld2 => ?rest7008)
        case hS7008 => exact hHeld
        clear hK KK
        (try clear hHeld)
        have hHeld := hHeld2
        clear hHeld2
        (try simp only [Act.put, xa, xb, xc, xd, xe, xf])
        refine tkT 7 ?_
        refine tkT 8 ?_
        refine wpAnyT_one (i := 9) (by kernel_rfl) rfl (fun KK hK => ?_)
        simp only [xa, xb, xc]
        go_simp
        obtain ⟨X, hX⟩ : ∃ X, V0.alloc (.cells #[.int .i64 0, .int .i64 0, .slice none 0 0, .slice none 0 0, .slice none 0 0] 37) = X := ⟨_, rfl⟩
        obtain ⟨G, hG⟩ : ∃ G, V0.heap.size = G := ⟨_, rfl⟩
        rw [hX, hG]
        have oX : Out 0 0 V0 X := hX ▸ (Out.refl 0 0 V0).alloc _
        have bX : Bl X G #[.int .i64 0, .int .i64 0, .slice none 0 0, .slice none 0 0, .slice none 0 0] 37 := by rw [← hX, ← hG]; exact Bl.new _ _ _
        have HG := hid_mk (Nat.le_of_eq hG)
        clear hX hG
        refine hK.out _ _ ?hS7011 (fun hHeld2 => ?rest7011)
        case hS7011 => exact ⟨oX.cell hHeld.1 (.inr (Nat.zero_le _)), oX.cell hHeld.2.1 (.inr (Nat.zero_le _)), oX.cell hHeld.2.2.1 (.inr (Nat.zero_le _)), oX.cell hHeld.2.2.2.1 (.inr (Nat.zero_le _)), oX.cell hHeld.2.2.2.2.1 (.inr (Nat.zero_le _)), oX.cell hHeld.2.2.2.2.2 (.inr (Nat.zero_le _))⟩
        clear hK KK
        (try clear hHeld)
        have hHeld := hHeld2
        clear hHeld2
        (try simp only [Act.put, xa, xb, xc, xd, xe, xf])
        refine wpAnyT_last (by kernel_rfl) rfl (fun KK hK => ?_)
        simp only [xa, xb, xc]
        have k0 := bX.cell (i := 0) rfl
        have f0 := bX.frozen 0
        have k1 := bX.cell (i := 1) rfl
        have f1 := bX.frozen 1
        have k2 := bX.cell (i := 2) rfl
        have f2 := bX.frozen 2
        have k3 := bX.cell (i := 3) rfl
        have f3 := bX.frozen 3
        have k4 := bX.cell (i := 4) rfl
        have f4 := bX.frozen 4
        go_simp
        clear k0 k1 k2 k3 k4 f0 f1 f2 f3 f4
        refine hK.out _ _ ?_
        clear hK KK
        (try simp only [Act.put, xa, xb, xc, xd, xe, xf])
        refine wpAnyT_done (by kernel_rfl) ?_ _
        exact HK.out _ _ _ _ _ _ _ _ _ G _ ⟨((((bX.set 0 (.int .i64 a)).set 1 (.int .i64 kd)).set 2 (.slice (some ⟨hr, 0, none⟩) lr cr2)).set 3 (.slice (some ⟨hf, 0, none⟩) lf cf)).set 4 (.slice (some ⟨he, 0, none⟩) le ce), (((((oD.trans oX).setCell (p := ⟨G, 0, none⟩) (.inr (Nat.le_trans oD.size HG.out)) _).setCell (p := ⟨G, 1, none⟩) (.inr (Nat.le_trans oD.size HG.out)) _).setCell (p := ⟨G, 2, none⟩) (.inr (Nat.le_trans oD.size HG.out)) _).setCell (p := ⟨G, 3, none⟩) (.inr (Nat.le_trans oD.size HG.out)) _).setCell (p := ⟨G, 4, none⟩) (.inr (Nat.le_trans oD.size HG.out)) _⟩
      · simp only [xa, xb, xc]
        go_simp
        obtain ⟨X, hX⟩ : ∃ X, V0.alloc (.cells #[.int .i64 0, .int .i64 0, .slice none 0 0, .slice none 0 0, .slice none 0 0] 37) = X := ⟨_, rfl⟩
        obtain ⟨G, hG⟩ : ∃ G, V0.heap.size = G := ⟨_, rfl⟩
        rw [hX, hG]
        have oX : Out 0 0 V0 X := hX ▸ (Out.refl 0 0 V0).alloc _
        have bX : Bl X G #[.int .i64 0, .int .i64 0, .slice none 0 0, .slice none 0 0, .slice none 0 0] 37 := by rw [← hX, ← hG]; exact Bl.new _ _ _
        have HG := hid_mk (Nat.le_of_eq hG)
        clear hX hG
        refine hK.out _ _ ?hS7012 (fun hHeld2 => ?rest7012)
        case hS7012 => exact ⟨oX.cell hHeld.1 (.inr (Nat.zero_le _)), oX.cell hHeld.2.1 (.inr (Nat.zero_le _)), oX.cell hHeld.2.2.1 (.inr (Nat.zero_le _)), oX.cell hHeld.2.2.2.1 (.inr (Nat.zero_le _)), oX.cell hHeld.2.2.2.2.1 (.inr (Nat.zero_le _)), oX.cell hHeld.2.2.2.2.2 (.inr (Nat.zero_le _))⟩
        clear hK KK
        (try clear hHeld)
        have hHeld := hHeld2
        clear hHeld2
        (try simp only [Act.put, xa, xb, xc, xd, xe, xf])
        refine wpAnyT_one (i := 6) (by kernel_rfl) rfl (fun KK hK => ?_)
        simp only [xa, xb, xc]
        go_simp
        refine (HW.out _).mono ?_
        rintro en x1 ⟨rfl, hx1⟩
        rw [hx1]
        clear hx1 x1
        refine hK.out _ _ ?hS7013 (fun hHeld2 => ?rest7013)
        case hS7013 => exact hHeld
        clear hK KK
        (try clear hHeld)
        have hHeld := hHeld2
        clear hHeld2
        (try simp only [Act.put, xa, xb, xc, xd, xe, xf])
        refine tkT 7 ?_
        refine tkT 8 ?_
        refine wpAnyT_last (by kernel_rfl) rfl (fun KK hK => ?_)
        simp only [xa, xb, xc]
        have k0 := bX.cell (i := 0) rfl
        have f0 := bX.frozen 0
        have k1 := bX.cell (i := 1) rfl
        have f1 := bX.frozen 1
        have k2 := bX.cell (i := 2) rfl
        have f2 := bX.frozen 2
        have k3 := bX.cell (i := 3) rfl
        have f3 := bX.frozen 3
        have k4 := bX.cell (i := 4) rfl
        have f4 := bX.frozen 4
        go_simp
        clear k0 k1 k2 k3 k4 f0 f1 f2 f3 f4
        refine hK.out _ _ ?_
        clear hK KK
        (try simp only [Act.put, xa, xb, xc, xd, xe, xf])
        refine wpAnyT_done (by kernel_rfl) ?_ _
        exact HK.out _ _ _ _ _ _ _ _ _ G _ ⟨((((bX.set 0 (.int .i64 a)).set 1 (.int .i64 kd)).set 2 (.slice (some ⟨hr, 0, none⟩) lr cr2)).set 3 (.slice (some ⟨hf, 0, none⟩) lf cf)).set 4 (.slice (some ⟨he, 0, none⟩) le ce), (((((oD.trans oX).setCell (p := ⟨G, 0, none⟩) (.inr (Nat.le_trans oD.size HG.out)) _).setCell (p := ⟨G, 1, none⟩) (.inr (Nat.le_trans oD.size HG.out)) _).setCell (p := ⟨G, 2, none⟩) (.inr (Nat.le_trans oD.size HG.out)) _).setCell (p := ⟨G, 3, none⟩) (.inr (Nat.le_trans oD.size HG.out)) _).setCell (p := ⟨G, 4, none⟩) (.inr (Nat.le_trans oD.size HG.out)) _⟩
    intro v9 v10 v11 v12 v13 v14 v15 v16 v17 G W hF
    (try simp only [Act.put, xa, xb, xc, xd, xe, xf])
    refine hK _ _ ?_
    clear hK K1 oD hV0 V0
    have e2 := hF.1.cell (i := 2) rfl
    have e3 := hF.1.cell (i := 3) rfl
    have e4 := hF.1.cell (i := 4) rfl
    have HF := hid_mk hF
    replace c0 := hF.2.cell c0 (.inr (Nat.zero_le _))
    replace c1 := hF.2.cell c1 (.inr (Nat.zero_le _))
    have d0 := hF.2.cell HN.out.1 (.inr (Nat.zero_le _))
    clear hF n0 n1 n2 n3 n4
    by_cases hlf : lf = 0
    · subst hlf
      by_cases hle : le = 0
      · subst hle
        by_cases hlr : lr = 0
        · subst hlr
          obtain ⟨W9, hW9⟩ : ∃ W9, W = W9 := ⟨_, rfl⟩
          have hT : TQ lo V W9 := by rw [← hW9]; exact TQ.of_out HF.out.2
          rw [hW9] at e2 e3 e4 ⊢
          clear hW9
          have HT9 := hid_mk hT
          have r0 := HT9.out.sl HZ.out C0.out
          have r1 := HT9.out.sl HZ.out C1.out
          obtain ⟨jm, hjm⟩ := (HT9.out.1.2 gn (m * 5) HGN.out).2.1 _ HN.out.2
          clear hT
          by_cases hnr : nr = 0
          · subst hnr
            go_wp2_with fail
            exact bodyPost_end (results_none Tryz.results10 _ _ _) rfl ⟨rfl, HT.out _ HT9.out⟩
          · have q3 : (0 : Int) < (nr : Int) := by omega
            obtain ⟨k2, hk2⟩ : ∃ k2, wiK at_ nr = k2 := ⟨_, rfl⟩
            have hkn2 : k2 < nr := hk2 ▸ wiK_lt (by omega) HM.out.2.2
            have HW2 : Hid (∀ W, Calls Tryz.prog 20 #[.int .i64 at_, .int .i64 (nr : Int)] W fun e w' => e = .returned (.int .i64 (k2 : Int)) ∧ w' = W) := hid_mk fun W => hk2 ▸ within_any at_ nr (by omega) HM.out.2.2
            have hkl2 := lt_i hkn2
            obtain ⟨gl, ⟨x0, x1, t0, t1⟩, f0, f1⟩ := (HT.out _ HT9.out).1.2.2.2.2.two hkn2
            have HX := hid_mk (And.intro gl (And.intro t0 t1))
            clear hk2 hkn2 hnr gl
            go_upto_region 10 with fail
            refine wp_region_T (S := fun w' => w'.cell? ⟨z, 0, none⟩ = some (.slice (some ⟨gn, 0, none⟩) nn cn) ∧ w'.cell? ⟨z, 1, none⟩ = some (.slice (some ⟨gr, 0, none⟩) nr cr) ∧ w'.cell? ⟨gn, m * 5, none⟩ = some (.int .i64 jm)) (z := 18) (by kernel_rfl) ?hS1 (fun hHeld => ?rest1)
            case hS1 => exact ⟨r0, r1, hjm⟩
            refine tkT 0 ?_
            refine tkT 1 ?_
            refine tkT 2 ?_
            refine tkT 3 ?_
            refine tkT 4 ?_
            refine tkT 5 ?_
            refine tkT 7 ?_
            refine tkT 8 ?_
            refine tkT 9 ?_
            refine tkT 10 ?_
            refine tkT 11 ?_
            refine tkT 12 ?_
            refine tkT 13 ?_
            refine tkT 14 ?_
            refine tkT 15 ?_
            refine tkT 16 ?_
            refine wpAnyT_one (i := 6) (by kernel_rfl) rfl (fun KK hK => ?_)
            simp only [xa, xb, xc]
            go_simp
            refine (HW2.out _).mono ?_
            rintro en y1 ⟨rfl, hy1⟩
            rw [hy1]
            clear hy1 y1
            refine hK.out _ _ ?hS18 (fun hHeld2 => ?rest18)
            case hS18 => exact hHeld
            clear hK KK
            (try clear hHeld)
            have hHeld := hHeld2
            clear hHeld2
            (try simp only [Act.put, xa, xb, xc, xd, xe, xf])
            refine tkT 17 ?_
            refine wpAnyT_last (by kernel_rfl) rfl (fun KK hK => ?_)
            simp only [xa, xb, xc]
            go_simp
            refine hK.out _ _ ?_
            clear hK KK
            (try simp only [Act.put, xa, xb, xc, xd, xe, xf])
            refine wpAnyT_done (by kernel_rfl) ?_ _
            clear t0 t1 f0 f1
            go_wp2_with fail
            exact bodyPost_end (results_none Tryz.results10 _ _ _) rfl ⟨rfl, HT.out _ ((HT9.out.set2 HX.out.1 HX.out.2.1 HX.out.2.2 _ _).out ((Out.refl 0 0 _).drew))⟩
        · have q1 : (0 : Int) < (lr : Int) := by omega
          have q2 : 0 < lr := by omega
          obtain ⟨x0, t0⟩ := (HI.out.1.tn (.of_out HF.out.2)).2.2.1 0 (by omega)
          have f0 := (HI.out.1.tn (.of_out HF.out.2)).2.2.2 0
          have gl := HI.out.1.1
          have s0 := t0
          have t1 := t0
          have f1 := f0
          have HX3 := hid_mk (And.intro gl (And.intro t0 t1))
          clear gl
          go_upto_region 8 with fail
          refine wp_region_T (S := fun w' => w'.cell? ⟨G, 2, none⟩ = some (.slice (some ⟨hr, 0, none⟩) lr cr2) ∧ w'.cell? ⟨hr, 0, none⟩ = some (.int .i64 x0)) (z := 8) (by kernel_rfl) ?hS20 (fun hHeld => ?rest20)
          case hS20 => exact ⟨e2, s0⟩
          refine tkT 0 ?_
          refine tkT 1 ?_
          refine tkT 2 ?_
          refine tkT 3 ?_
          refine tkT 4 ?_
          refine tkT 5 ?_
          refine tkT 6 ?_
          refine tkT 7 ?_
          refine wpAnyT_last (by kernel_rfl) rfl (fun KK hK => ?_)
          simp only [xa, xb, xc]
          go_simp
          refine hK.out _ _ ?_
          clear hK KK
          (try simp only [Act.put, xa, xb, xc, xd, xe, xf])
          refine wpAnyT_done (by kernel_rfl) ?_ _
          clear t0 t1 f0 f1
          obtain ⟨W9, hW9⟩ : ∃ W9, (W.setCell ⟨hr, 0, none⟩ (.int .i64 (bits BinOp.xor IntKind.i64 x0 1))).drew = W9 := ⟨_, rfl⟩
          have hT : TQ lo V W9 := by rw [← hW9]; exact ((TQ.of_out HF.out.2).set HX3.out.1 HX3.out.2.1 _).out ((Out.refl 0 0 _).drew)
          rw [hW9]
          clear hW9
          have HT9 := hid_mk hT
          have r0 := HT9.out.sl HZ.out C0.out
          have r1 := HT9.out.sl HZ.out C1.out
          obtain ⟨jm, hjm⟩ := (HT9.out.1.2 gn (m * 5) HGN.out).2.1 _ HN.out.2
          clear hT
          by_cases hnr : nr = 0
          · subst hnr
            go_wp2_with fail
            exact bodyPost_end (results_none Tryz.results10 _ _ _) rfl ⟨rfl, HT.out _ HT9.out⟩
          · have q3 : (0 : Int) < (nr : Int) := by omega
            obtain ⟨k2, hk2⟩ : ∃ k2, wiK at_ nr = k2 := ⟨_, rfl⟩
            have hkn2 : k2 < nr := hk2 ▸ wiK_lt (by omega) HM.out.2.2
            have HW2 : Hid (∀ W, Calls Tryz.prog 20 #[.int .i64 at_, .int .i64 (nr : Int)] W fun e w' => e = .returned (.int .i64 (k2 : Int)) ∧ w' = W) := hid_mk fun W => hk2 ▸ within_any at_ nr (by omega) HM.out.2.2
            have hkl2 := lt_i hkn2
            obtain ⟨gl, ⟨x0, x1, t0, t1⟩, f0, f1⟩ := (HT.out _ HT9.out).1.2.2.2.2.two hkn2
            have HX := hid_mk (And.intro gl (And.intro t0 t1))
            clear hk2 hkn2 hnr gl
            go_upto_region 10 with fail
            refine wp_region_T (S := fun w' => w'.cell? ⟨z, 0, none⟩ = some (.slice (some ⟨gn, 0, none⟩) nn cn) ∧ w'.cell? ⟨z, 1, none⟩ = some (.slice (some ⟨gr, 0, none⟩) nr cr) ∧ w'.cell? ⟨gn, m * 5, none⟩ = some (.int .i64 jm)) (z := 18) (by kernel_rfl) ?hS29 (fun hHeld => ?rest29)
            case hS29 => exact ⟨r0, r1, hjm⟩
            refine tkT 0 ?_
            refine tkT 1 ?_
            refine tkT 2 ?_
            refine tkT 3 ?_
            refine tkT 4 ?_
            refine tkT 5 ?_
            refine tkT 7 ?_
            refine tkT 8 ?_
            refine tkT 9 ?_
            refine tkT 10 ?_
            refine tkT 11 ?_
            refine tkT 12 ?_
            refine tkT 13 ?_
            refine tkT 14 ?_
            refine tkT 15 ?_
            refine tkT 16 ?_
            refine wpAnyT_one (i := 6) (by kernel_rfl) rfl (fun KK hK => ?_)
            simp only [xa, xb, xc]
            go_simp
            refine (HW2.out _).mono ?_
            rintro en y1 ⟨rfl, hy1⟩
            rw [hy1]
            clear hy1 y1
            refine hK.out _ _ ?hS46 (fun hHeld2 => ?rest46)
            case hS46 => exact hHeld
            clear hK KK
            (try clear hHeld)
            have hHeld := hHeld2
            clear hHeld2
            (try simp only [Act.put, xa, xb, xc, xd, xe, xf])
            refine tkT 17 ?_
            refine wpAnyT_last (by kernel_rfl) rfl (fun KK hK => ?_)
            simp only [xa, xb, xc]
            go_simp
            refine hK.out _ _ ?_
            clear hK KK
            (try simp only [Act.put, xa, xb, xc, xd, xe, xf])
            refine wpAnyT_done (by kernel_rfl) ?_ _
            clear t0 t1 f0 f1
            go_wp2_with fail
            exact bodyPost_end (results_none Tryz.results10 _ _ _) rfl ⟨rfl, HT.out _ ((HT9.out.set2 HX.out.1 HX.out.2.1 HX.out.2.2 _ _).out ((Out.refl 0 0 _).drew))⟩
      · have q1 : (0 : Int) < (le : Int) := by omega
        have q2 : 0 < le := by omega
        obtain ⟨j, hj⟩ : ∃ j, wiK at_ le = j := ⟨_, rfl⟩
        have hjn : j < le := hj ▸ wiK_lt (by omega) (by have := HBd.out; omega)
        have HW3 : Hid (∀ W, Calls Tryz.prog 20 #[.int .i64 at_, .int .i64 (le : Int)] W fun e w' => e = .returned (.int .i64 (j : Int)) ∧ w' = W) := hid_mk fun W => hj ▸ within_any at_ le (by omega) (by have := HBd.out; omega)
        have hjl := lt_i hjn
        obtain ⟨gl, ⟨x0, x1, t0, t1⟩, f0, f1⟩ := (HI.out.2.2.tn (.of_out HF.out.2)).four hjn
        have HX3 := hid_mk (And.intro gl (And.intro t0 t1))
        clear gl hj hjn
        go_upto_region 6 with fail
        refine wp_region_T (S := fun w' => w'.cell? ⟨G, 4, none⟩ = some (.slice (some ⟨he, 0, none⟩) le ce)) (z := 10) (by kernel_rfl) ?hS48 (fun hHeld => ?rest48)
        case hS48 => exact e4
        refine tkT 0 ?_
        refine tkT 1 ?_
        refine tkT 2 ?_
        refine tkT 3 ?_
        refine tkT 4 ?_
        refine tkT 5 ?_
        refine tkT 7 ?_
        refine wpAnyT_one (i := 6) (by kernel_rfl) rfl (fun KK hK => ?_)
        simp only [xa, xb, xc]
        go_simp
        refine (HW3.out _).mono ?_
        rintro en y1 ⟨rfl, hy1⟩
        rw [hy1]
        clear hy1 y1
        refine hK.out _ _ ?hS56 (fun hHeld2 => ?rest56)
        case hS56 => exact hHeld
        clear hK KK
        (try clear hHeld)
        have hHeld := hHeld2
        clear hHeld2
        (try simp only [Act.put, xa, xb, xc, xd, xe, xf])
        refine wpAnyT_one (i := 8) (by kernel_rfl) rfl (fun KK hK => ?_)
        simp only [xa, xb, xc]
        go_simp
        refine hK.out _ _ ?hS57 (fun hHeld2 => ?rest57)
        case hS57 => exact hHeld
        clear hK KK
        (try clear hHeld)
        have hHeld := hHeld2
        clear hHeld2
        (try simp only [Act.put, xa, xb, xc, xd, xe, xf])
        refine tkT 9 ?_
        refine wpAnyT_last (by kernel_rfl) rfl (fun KK hK => ?_)
        simp only [xa, xb, xc]
        go_simp
        refine hK.out _ _ ?_
        clear hK KK
        (try simp only [Act.put, xa, xb, xc, xd, xe, xf])
        refine wpAnyT_done (by kernel_rfl) ?_ _
        clear t0 t1 f0 f1
        obtain ⟨W9, hW9⟩ : ∃ W9, ((W.setCell ⟨he, j * 4 + 2, none⟩ (.int .i64 3)).setCell ⟨he, j * 4 + 2 + 1, none⟩ (.int .i64 0)).drew = W9 := ⟨_, rfl⟩
        have hT : TQ lo V W9 := by rw [← hW9]; exact ((TQ.of_out HF.out.2).set2 HX3.out.1 HX3.out.2.1 HX3.out.2.2 _ _).out ((Out.refl 0 0 _).drew)
        rw [hW9]
        clear hW9
        have HT9 := hid_mk hT
        have r0 := HT9.out.sl HZ.out C0.out
        have r1 := HT9.out.sl HZ.out C1.out
        obtain ⟨jm, hjm⟩ := (HT9.out.1.2 gn (m * 5) HGN.out).2.1 _ HN.out.2
        clear hT
        by_cases hnr : nr = 0
        · subst hnr
          go_wp2_with fail
          exact bodyPost_end (results_none Tryz.results10 _ _ _) rfl ⟨rfl, HT.out _ HT9.out⟩
        · have q3 : (0 : Int) < (nr : Int) := by omega
          obtain ⟨k2, hk2⟩ : ∃ k2, wiK at_ nr = k2 := ⟨_, rfl⟩
          have hkn2 : k2 < nr := hk2 ▸ wiK_lt (by omega) HM.out.2.2
          have HW2 : Hid (∀ W, Calls Tryz.prog 20 #[.int .i64 at_, .int .i64 (nr : Int)] W fun e w' => e = .returned (.int .i64 (k2 : Int)) ∧ w' = W) := hid_mk fun W => hk2 ▸ within_any at_ nr (by omega) HM.out.2.2
          have hkl2 := lt_i hkn2
          obtain ⟨gl, ⟨x0, x1, t0, t1⟩, f0, f1⟩ := (HT.out _ HT9.out).1.2.2.2.2.two hkn2
          have HX := hid_mk (And.intro gl (And.intro t0 t1))
          clear hk2 hkn2 hnr gl
          go_upto_region 10 with fail
          refine wp_region_T (S := fun w' => w'.cell? ⟨z, 0, none⟩ = some (.slice (some ⟨gn, 0, none⟩) nn cn) ∧ w'.cell? ⟨z, 1, none⟩ = some (.slice (some ⟨gr, 0, none⟩) nr cr) ∧ w'.cell? ⟨gn, m * 5, none⟩ = some (.int .i64 jm)) (z := 18) (by kernel_rfl) ?hS59 (fun hHeld => ?rest59)
          case hS59 => exact ⟨r0, r1, hjm⟩
          refine tkT 0 ?_
          refine tkT 1 ?_
          refine tkT 2 ?_
          refine tkT 3 ?_
          refine tkT 4 ?_
          refine tkT 5 ?_
          refine tkT 7 ?_
          refine tkT 8 ?_
          refine tkT 9 ?_
          refine tkT 10 ?_
          refine tkT 11 ?_
          refine tkT 12 ?_
          refine tkT 13 ?_
          refine tkT 14 ?_
          refine tkT 15 ?_
          refine tkT 16 ?_
          refine wpAnyT_one (i := 6) (by kernel_rfl) rfl (fun KK hK => ?_)
          simp only [xa, xb, xc]
          go_simp
          refine (HW2.out _).mono ?_
          rintro en y1 ⟨rfl, hy1⟩
          rw [hy1]
          clear hy1 y1
          refine hK.out _ _ ?hS76 (fun hHeld2 => ?rest76)
          case hS76 => exact hHeld
          clear hK KK
          (try clear hHeld)
          have hHeld := hHeld2
          clear hHeld2
          (try simp only [Act.put, xa, xb, xc, xd, xe, xf])
          refine tkT 17 ?_
          refine wpAnyT_last (by kernel_rfl) rfl (fun KK hK => ?_)
          simp only [xa, xb, xc]
          go_simp
          refine hK.out _ _ ?_
          clear hK KK
          (try simp only [Act.put, xa, xb, xc, xd, xe, xf])
          refine wpAnyT_done (by kernel_rfl) ?_ _
          clear t0 t1 f0 f1
          go_wp2_with fail
          exact bodyPost_end (results_none Tryz.results10 _ _ _) rfl ⟨rfl, HT.out _ ((HT9.out.set2 HX.out.1 HX.out.2.1 HX.out.2.2 _ _).out ((Out.refl 0 0 _).drew))⟩
    · have q1 : (0 : Int) < (lf : Int) := by omega
      have q2 : 0 < lf := by omega
      obtain ⟨j, hj⟩ : ∃ j, wiK at_ lf = j := ⟨_, rfl⟩
      have hjn : j < lf := hj ▸ wiK_lt (by omega) (by have := HBd.out; omega)
      have HW3 : Hid (∀ W, Calls Tryz.prog 20 #[.int .i64 at_, .int .i64 (lf : Int)] W fun e w' => e = .returned (.int .i64 (j : Int)) ∧ w' = W) := hid_mk fun W => hj ▸ within_any at_ lf (by omega) (by have := HBd.out; omega)
      have hjl := lt_i hjn
      obtain ⟨gl, ⟨x0, x1, t0, t1⟩, f0, f1⟩ := (HI.out.2.1.tn (.of_out HF.out.2)).two hjn
      have HX3 := hid_mk (And.intro gl (And.intro t0 t1))
      clear gl hj hjn
      go_upto_region 4 with fail
      refine wp_region_T (S := fun w' => w'.cell? ⟨G, 3, none⟩ = some (.slice (some ⟨hf, 0, none⟩) lf cf) ∧ w'.cell? ⟨z, 0, none⟩ = some (.slice (some ⟨gn, 0, none⟩) nn cn) ∧ w'.cell? ⟨gn, 0, none⟩ = some (.int .i64 id0)) (z := 14) (by kernel_rfl) ?hS78 (fun hHeld => ?rest78)
      case hS78 => exact ⟨e3, c0, d0⟩
      refine tkT 0 ?_
      refine tkT 1 ?_
      refine tkT 2 ?_
      refine tkT 3 ?_
      refine tkT 4 ?_
      refine tkT 5 ?_
      refine tkT 7 ?_
      refine tkT 8 ?_
      refine tkT 9 ?_
      refine tkT 10 ?_
      refine tkT 11 ?_
      refine tkT 12 ?_
      refine wpAnyT_one (i := 6) (by kernel_rfl) rfl (fun KK hK => ?_)
      simp only [xa, xb, xc]
      go_simp
      refine (HW3.out _).mono ?_
      rintro en y1 ⟨rfl, hy1⟩
      rw [hy1]
      clear hy1 y1
      refine hK.out _ _ ?hS91 (fun hHeld2 => ?rest91)
      case hS91 => exact hHeld
      clear hK KK
      (try clear hHeld)
      have hHeld := hHeld2
      clear hHeld2
      (try simp only [Act.put, xa, xb, xc, xd, xe, xf])
      refine tkT 13 ?_
      refine wpAnyT_last (by kernel_rfl) rfl (fun KK hK => ?_)
      simp only [xa, xb, xc]
      go_simp
      refine hK.out _ _ ?_
      clear hK KK
      (try simp only [Act.put, xa, xb, xc, xd, xe, xf])
      refine wpAnyT_done (by kernel_rfl) ?_ _
      clear t0 t1 f0 f1
      obtain ⟨W9, hW9⟩ : ∃ W9, ((W.setCell ⟨hf, j * 2, none⟩ (.int .i64 2)).setCell ⟨hf, j * 2 + 1, none⟩ (.int .i64 id0)).drew = W9 := ⟨_, rfl⟩
      have hT : TQ lo V W9 := by rw [← hW9]; exact ((TQ.of_out HF.out.2).set2 HX3.out.1 HX3.out.2.1 HX3.out.2.2 _ _).out ((Out.refl 0 0 _).drew)
      rw [hW9]
      clear hW9
      have HT9 := hid_mk hT
      have r0 := HT9.out.sl HZ.out C0.out
      have r1 := HT9.out.sl HZ.out C1.out
      obtain ⟨jm, hjm⟩ := (HT9.out.1.2 gn (m * 5) HGN.out).2.1 _ HN.out.2
      clear hT
      by_cases hnr : nr = 0
      · subst hnr
        go_wp2_with fail
        exact bodyPost_end (results_none Tryz.results10 _ _ _) rfl ⟨rfl, HT.out _ HT9.out⟩
      · have q3 : (0 : Int) < (nr : Int) := by omega
        obtain ⟨k2, hk2⟩ : ∃ k2, wiK at_ nr = k2 := ⟨_, rfl⟩
        have hkn2 : k2 < nr := hk2 ▸ wiK_lt (by omega) HM.out.2.2
        have HW2 : Hid (∀ W, Calls Tryz.prog 20 #[.int .i64 at_, .int .i64 (nr : Int)] W fun e w' => e = .returned (.int .i64 (k2 : Int)) ∧ w' = W) := hid_mk fun W => hk2 ▸ within_any at_ nr (by omega) HM.out.2.2
        have hkl2 := lt_i hkn2
        obtain ⟨gl, ⟨x0, x1, t0, t1⟩, f0, f1⟩ := (HT.out _ HT9.out).1.2.2.2.2.two hkn2
        have HX := hid_mk (And.intro gl (And.intro t0 t1))
        clear hk2 hkn2 hnr gl
        go_upto_region 10 with fail
        refine wp_region_T (S := fun w' => w'.cell? ⟨z, 0, none⟩ = some (.slice (some ⟨gn, 0, none⟩) nn cn) ∧ w'.cell? ⟨z, 1, none⟩ = some (.slice (some ⟨gr, 0, none⟩) nr cr) ∧ w'.cell? ⟨gn, m * 5, none⟩ = some (.int .i64 jm)) (z := 18) (by kernel_rfl) ?hS93 (fun hHeld => ?rest93)
        case hS93 => exact ⟨r0, r1, hjm⟩
        refine tkT 0 ?_
        refine tkT 1 ?_
        refine tkT 2 ?_
        refine tkT 3 ?_
        refine tkT 4 ?_
        refine tkT 5 ?_
        refine tkT 7 ?_
        refine tkT 8 ?_
        refine tkT 9 ?_
        refine tkT 10 ?_
        refine tkT 11 ?_
        refine tkT 12 ?_
        refine tkT 13 ?_
        refine tkT 14 ?_
        refine tkT 15 ?_
        refine tkT 16 ?_
        refine wpAnyT_one (i := 6) (by kernel_rfl) rfl (fun KK hK => ?_)
        simp only [xa, xb, xc]
        go_simp
        refine (HW2.out _).mono ?_
        rintro en y1 ⟨rfl, hy1⟩
        rw [hy1]
        clear hy1 y1
        refine hK.out _ _ ?hS110 (fun hHeld2 => ?rest110)
        case hS110 => exact hHeld
        clear hK KK
        (try clear hHeld)
        have hHeld := hHeld2
        clear hHeld2
        (try simp only [Act.put, xa, xb, xc, xd, xe, xf])
        refine tkT 17 ?_
        refine wpAnyT_last (by kernel_rfl) rfl (fun KK hK => ?_)
        simp only [xa, xb, xc]
        go_simp
        refine hK.out _ _ ?_
        clear hK KK
        (try simp only [Act.put, xa, xb, xc, xd, xe, xf])
        refine wpAnyT_done (by kernel_rfl) ?_ _
        clear t0 t1 f0 f1
        go_wp2_with fail
        exact bodyPost_end (results_none Tryz.results10 _ _ _) rfl ⟨rfl, HT.out _ ((HT9.out.set2 HX.out.1 HX.out.2.1 HX.out.2.2 _ _).out ((Out.refl 0 0 _).drew))⟩
end Go.Proofs.YtghlbdmldahnlaaGreatDoor
