import Derived.Test.YtapjfokkcgdhhaaDoorQay
import Derived.Test.YtapjfokkcgdhhaaDoorQao
namespace Go.Proofs.YtapjfokkcgdhhaaDoor
open Go.RowKit
set_option linter.unusedVariables false
set_option linter.unusedSimpArgs false

theorem info_u8X : (Tryd.prog.info? 5).map (fun i => (i.zero, i.size, i.bytes)) = some (some (.int .u8 0), 1, 1) := by kernel_rfl
theorem mk2_byt (i j : Nat) : Byt [mkV i, mkV j] := by
  intro x hx
  simp at hx
  rcases hx with rfl | rfl
  · exact mkV_b i
  · exact mkV_b j
theorem bl2_by {w : World} {g : Nat} {a b : Int} (hB : Byt [a, b]) (h : Bl w g #[.int .u8 a, .int .u8 b] 5) : BytesAt w (some ⟨g, 0, none⟩) [a, b] := by
  have hi : ByIn w w.heap.size (some ⟨g, 0, none⟩) [a, b] := ⟨hB, .inr ⟨g, 0, rfl, h.lt, fun j x hx => by
    rw [Nat.zero_add]
    match j, hx with
    | 0, hx => cases hx; exact h.cell rfl
    | 1, hx => cases hx; exact h.cell rfl⟩⟩
  exact hi.bytes
set_option maxRecDepth 100000 in
set_option maxHeartbeats 4000000 in
theorem outer_any {w : World} {lo bk : Nat} {bx : Array Value} {pa : Option Addr} {np pk : Nat} {Ps : List (Int × (Option Addr × Nat) × (Option Addr × Nat) × List Value × List Value × List (List Int) × List (Int × Int × Int × List (Int × Int)))} {TX FX : Nat → List Value} (hlo : lo ≤ w.heap.size) (h : OS w w lo bk bx pa np pk Ps TX FX) (hk : ∀ (i : Nat) p, Ps[i]? = some p → okG p) (hn : np ≤ 1000) :
    Calls Tryd.prog 18 #[.pointer (some ⟨bk, 0, none⟩)] w fun e w' => e = .returned (.bool true) ∧ Fx (OB Ps) w w' := by
  have HH := hid_mk (And.intro hlo (And.intro hk hn))
  have HO := hid_mk h
  clear h hlo hk hn
  go_enter Tryd.func18, Tryd.ntmps18
  go_wp2
  go_loopw [3] (fun c wr => ∃ (i : Nat) (TX FX : Nat → List Value), c = .int .i64 i ∧ i ≤ np ∧ OS w wr lo bk bx pa np pk Ps TX FX ∧ OMk wr i Ps TX FX) (fun c _ => np - (intOf c).toNat)
  case atStart => exact ⟨0, TX, FX, rfl, Nat.zero_le _, HO.out, fun r p hr => by omega⟩
  case round =>
    obtain ⟨i, TX, FX, rfl, him, hO, hM⟩ := hrel
    have k2 := hO.cell2
    by_cases hgo : i < np
    · obtain ⟨l1, l2⟩ := lt_d hgo
      obtain ⟨p, pg, hp, rfl, c1, c2⟩ := hO.row hgo
      obtain ⟨ta, nt, tc, hgT, hnt⟩ : ∃ ta nt tc, gT p = .slice ta nt tc ∧ (gTs p).length = nt := ⟨_, _, _, rfl, rfl⟩
      obtain ⟨fa, nf, fc, hgF, hnf⟩ : ∃ fa nf fc, gF p = .slice fa nf fc ∧ (gFs p).length = nf := ⟨_, _, _, rfl, rfl⟩
      have lmi : (i : Int) < (np : Int) := by omega
      have HI : Hid (i < np ∧ np ≤ 1000 ∧ nt ≤ 64 ∧ nf ≤ 64 ∧ Ps[i]? = some p ∧ gT p = .slice ta nt tc ∧ (gTs p).length = nt ∧ gF p = .slice fa nf fc ∧ (gFs p).length = nf) := hid_mk ⟨hgo, HH.out.2.2, by have := (HH.out.2.1 i p hp).1; omega, by have := (HH.out.2.1 i p hp).2.1; omega, hp, hgT, hnt, hgF, hnf⟩
      have HW : Hid (OS w wr lo bk bx (some ⟨pg, 0, none⟩) np pk Ps TX FX ∧ OMk wr i Ps TX FX) := hid_mk ⟨hO, hM⟩
      clear hO hM hgo him c1 c2 hp hgT hnt hgF hnf HO
      go_wp2
      clear k2
      go_loopw [4] (fun cj wz => ∃ (j : Nat) (TX : Nat → List Value), cj = .int .i64 j ∧ j ≤ nt ∧ OS w wz lo bk bx (some ⟨pg, 0, none⟩) np pk Ps TX FX ∧ OMk wz i Ps TX FX ∧ MkT wz i j (TX i)) (fun cj _ => nt - (intOf cj).toNat)
      case atStart => exact ⟨0, TX, rfl, Nat.zero_le _, HW.out.1, HW.out.2, fun k hk => by omega⟩
      case round =>
        obtain ⟨j, TX, rfl, hjn, hO, hM, hMj⟩ := hrel
        have k2 := hO.cell2
        obtain ⟨hgo, hn, hn1, hn2, hp, hgT, hnt, hgF, hnf⟩ := HI.out
        have c1 := (hO.cells hp).1
        rw [hgT] at c1
        by_cases hgj : j < nt
        · obtain ⟨p1, p2⟩ := lt_d hgj
          have hown := (hO.2.2.2.1 i p hp).1
          rw [hgT, hnt] at hown
          obtain ⟨gt, cur, rfl, q1, q2, q3, -⟩ := own_cellsX hown (by omega)
          have hXl : (TX i).length = nt := by have := hown.1; omega
          obtain ⟨y0, hy0⟩ : ∃ y, (TX i)[j]? = some y := ⟨_, List.getElem?_eq_getElem (by omega)⟩
          have lmj : (j : Int) < (nt : Int) := by omega
          obtain ⟨V3, hV3⟩ : ∃ V3, wr.drew = V3 := ⟨_, rfl⟩
          have oV : Out 0 0 wr V3 := by rw [← hV3]; exact (Out.refl 0 0 wr).drew
          obtain ⟨mi, hmi⟩ : ∃ mi, mkV i = mi := ⟨_, rfl⟩
          obtain ⟨mj, hmj⟩ : ∃ mj, mkV j = mj := ⟨_, rfl⟩
          have HM1 := hid_mk (fun V : World => hmi ▸ mark_any V i (by omega))
          have HM2 := hid_mk (fun V : World => hmj ▸ mark_any V j (by omega))
          obtain ⟨X1, hX1⟩ : ∃ X1, V3.alloc (.cells #[.int .u8 mi, .int .u8 mj] 5) = X1 := ⟨_, rfl⟩
          obtain ⟨t1, ht1⟩ : ∃ t1, V3.heap.size = t1 := ⟨_, rfl⟩
          have oX : Out 0 0 V3 X1 := by rw [← hX1]; exact (Out.refl 0 0 V3).alloc _
          have bX : Bl X1 t1 #[.int .u8 mi, .int .u8 mj] 5 := by rw [← hX1, ← ht1]; exact Bl.new _ _ _
          have oA := oV.trans oX
          have e2 := oA.cell k2 (.inr (Nat.zero_le _))
          have e1 := oA.cell c1 (.inr (Nat.zero_le _))
          have hO1 := hO.quiet oA
          have hown1 := (hO1.2.2.2.1 i p hp).1
          rw [hgT, hnt] at hown1
          have s9 := own_at hown1 hy0
          have z9 := own_frozen hown1 j
          obtain ⟨W6, hW6⟩ : ∃ W6, X1.setCell ⟨gt, j, none⟩ (.slice (some ⟨t1, 0, none⟩) 2 2) = W6 := ⟨_, rfl⟩
          have x6 : Fx (fun k => (gT p).ownBlock = some k) X1 W6 := by rw [← hW6]; exact (Fx.refl (fun k => (gT p).ownBlock = some k) X1).set (p := ⟨gt, j, none⟩) (.inl (by rw [hgT]; rfl)) _
          have hown6 : W6.ownsRow lo 22 1 (gT p) (gTs p).length ((TX i).set j (.slice (some ⟨t1, 0, none⟩) 2 2)) := by
            rw [← hW6, hgT, hnt]
            exact own_put hown1 j _
          have hty := own_typ (hO1.2.2.2.1 i p hp).1 (by decide)
          have hO6 := hO1.stepT hp hown6 x6
          have hM6 := ((hM.quiet oA).fx x6 hty).setT ((TX i).set j (.slice (some ⟨t1, 0, none⟩) 2 2))
          have hMt : MT X1 i j (.slice (some ⟨t1, 0, none⟩) 2 2) := ⟨t1, rfl, by rw [hmi, hmj]; exact bX⟩
          have hMj6 := ((hMj.quiet oA).fx x6 hty).up (v := .slice (some ⟨t1, 0, none⟩) 2 2) (by omega) (hMt.fx x6 hty)
          have HE : Hid (j < nt ∧ nt ≤ 64 ∧ OS w W6 lo bk bx (some ⟨pg, 0, none⟩) np pk Ps (upd TX i ((TX i).set j (.slice (some ⟨t1, 0, none⟩) 2 2))) FX ∧ OMk W6 i Ps (upd TX i ((TX i).set j (.slice (some ⟨t1, 0, none⟩) 2 2))) FX ∧ MkT W6 i (j + 1) (upd TX i ((TX i).set j (.slice (some ⟨t1, 0, none⟩) 2 2)) i)) := hid_mk ⟨hgj, hn1, hO6, hM6, by rw [upd_at]; exact hMj6⟩
          have HS9 := hid_mk (And.intro s9 z9)
          have HE1 := hid_mk (And.intro e2 e1)
          have HV : Hid (V3.cell? ⟨bk, 2, none⟩ = some (.slice (some ⟨pg, 0, none⟩) np pk) ∧ V3.cell? ⟨pg, i * 3 + 1, none⟩ = some (.slice (some ⟨gt, 0, none⟩) nt tc)) := hid_mk ⟨oV.cell k2 (.inr (Nat.zero_le _)), oV.cell c1 (.inr (Nat.zero_le _))⟩
          clear hO hM hMj hgo hn hn1 hn2 hp hgT hnt hgF hnf hgj hjn hown q1 q2 q3 hXl hy0 oV hmi hmj oX bX oA e2 e1 hO1 hown1 s9 z9 x6 hown6 hty hO6 hM6 hMt hMj6 l1 l2
          go_wp2_with fail
          refine wp_region_T (S := fun w' => w'.cell? ⟨bk, 2, none⟩ = some (.slice (some ⟨pg, 0, none⟩) np pk) ∧ w'.cell? ⟨pg, i * 3 + 1, none⟩ = some (.slice (some ⟨gt, 0, none⟩) nt tc)) (z := 15) (by kernel_rfl) ?hS1 (fun hHeld => ?rest1)
          case hS1 => exact ⟨k2, c1⟩
          refine tkT 0 ?_
          refine tkT 1 ?_
          refine tkT 2 ?_
          refine tkT 3 ?_
          refine tkT 4 ?_
          refine tkT 5 ?_
          refine tkT 6 ?_
          refine tkT 7 ?_
          refine tkT 8 ?_
          refine tkT 9 ?_
          refine tkT 11 ?_
          refine wpAnyT_one (i := 10) (by kernel_rfl) rfl (fun KK hK => ?_)
          simp only [xa, xb, xc]
          go_simp
          (try rw [hV3])
          refine calls_same (HM1.out _) ?_
          refine hK.out _ _ ?hS13 (fun hHeld2 => ?rest13)
          case hS13 => exact HV.out
          clear hK KK
          (try clear hHeld)
          have hHeld := hHeld2
          clear hHeld2
          (try simp only [Act.put, xa, xb, xc, xd, xe, xf])
          refine wpAnyT_one (i := 12) (by kernel_rfl) rfl (fun KK hK => ?_)
          simp only [xa, xb, xc]
          go_simp
          refine calls_same (HM2.out _) ?_
          refine hK.out _ _ ?hS14 (fun hHeld2 => ?rest14)
          case hS14 => exact HV.out
          clear hK KK
          (try clear hHeld)
          have hHeld := hHeld2
          clear hHeld2
          (try simp only [Act.put, xa, xb, xc, xd, xe, xf])
          refine wpAnyT_one (i := 13) (by kernel_rfl) rfl (fun KK hK => ?_)
          simp only [xa, xb, xc]
          go_simp
          (try rw [hX1])
          (try rw [ht1])
          refine hK.out _ _ ?hS15 (fun hHeld2 => ?rest15)
          case hS15 => exact HE1.out
          clear hK KK
          (try clear hHeld)
          have hHeld := hHeld2
          clear hHeld2
          (try simp only [Act.put, xa, xb, xc, xd, xe, xf])
          refine tkT 14 ?_
          refine wpAnyT_last (by kernel_rfl) rfl (fun KK hK => ?_)
          simp only [xa, xb, xc]
          obtain ⟨s9, z9⟩ := HS9.out
          go_simp
          (try rw [hW6])
          refine hK.out _ _ ?_
          clear hK KK
          (try simp only [Act.put, xa, xb, xc, xd, xe, xf])
          refine wpAnyT_done (by kernel_rfl) ?_ _
          clear s9 z9 hHeld hV3 hX1 ht1 hW6 HM1 HM2 k2 c1
          go_wp2
          exact ⟨⟨j + 1, _, up_V (K := 64) (by have := HE.out; omega) (by omega), HE.out.1, HE.out.2.2⟩, by rw [up_W (K := 64) (by have := HE.out; omega) (by omega)]; exact ms_N HE.out.1⟩
        · obtain rfl : nt = j := by omega
          have p1 : decide ((nt : Int) < (nt : Int)) = false := by simp
          have HW2 : Hid (OS w wr lo bk bx (some ⟨pg, 0, none⟩) np pk Ps TX FX ∧ OMk wr i Ps TX FX ∧ MkT wr i nt (TX i)) := hid_mk ⟨hO, hM, hMj⟩
          clear hO hM hMj hgo hn hn1 hn2 hp hgT hnt hgF hnf hgj hjn HW
          go_wp2
          clear k2 c1
          go_loopw [5] (fun cj wz => ∃ (j : Nat) (FX : Nat → List Value), cj = .int .i64 j ∧ j ≤ nf ∧ OS w wz lo bk bx (some ⟨pg, 0, none⟩) np pk Ps TX FX ∧ OMk wz i Ps TX FX ∧ MkT wz i nt (TX i) ∧ MkF i j (FX i)) (fun cj _ => nf - (intOf cj).toNat)
          case atStart => exact ⟨0, FX, rfl, Nat.zero_le _, HW2.out.1, HW2.out.2.1, HW2.out.2.2, fun k hk => by omega⟩
          case round =>
            obtain ⟨j, FX, rfl, hjn, hO, hM, hMj, hMf⟩ := hrel
            have k2 := hO.cell2
            obtain ⟨hgo, hn, hn1, hn2, hp, hgT, hnt, hgF, hnf⟩ := HI.out
            have c2 := (hO.cells hp).2
            rw [hgF] at c2
            by_cases hgj : j < nf
            · obtain ⟨p1, p2⟩ := lt_d hgj
              have hown := (hO.2.2.2.1 i p hp).2
              rw [hgF, hnf] at hown
              obtain ⟨gf, cur, rfl, q1, q2, q3, -⟩ := own_cellsX hown (by omega)
              have hXl : (FX i).length = nf * 4 := hown.1
              obtain ⟨y0, hy0⟩ : ∃ y, (FX i)[j * 4]? = some y := ⟨_, List.getElem?_eq_getElem (by omega)⟩
              obtain ⟨y1, hy1⟩ : ∃ y, (FX i)[j * 4 + 1]? = some y := ⟨_, List.getElem?_eq_getElem (by omega)⟩
              obtain ⟨y2, hy2⟩ : ∃ y, (FX i)[j * 4 + 2]? = some y := ⟨_, List.getElem?_eq_getElem (by omega)⟩
              obtain ⟨y3, hy3⟩ : ∃ y, (FX i)[j * 4 + 3]? = some y := ⟨_, List.getElem?_eq_getElem (by omega)⟩
              have lmj : (j : Int) < (nf : Int) := by omega
              have o1 := own_put hown (j * 4) (.int .i64 (i : Int))
              have o2 := own_put o1 (j * 4 + 1) (.int .i64 (j : Int))
              have o3 := own_put o2 (j * 4 + 2) (.int .i64 0)
              have o4 := own_put o3 (j * 4 + 3) (.slice none 0 0)
              have s0 := own_at hown hy0
              have z0 := own_frozen hown (j * 4)
              have s1 := own_at o1 (j := j * 4 + 1) (u := y1) (by rw [List.getElem?_set_ne (by omega)]; exact hy1)
              have z1 := own_frozen o1 (j * 4 + 1)
              have s2 := own_at o2 (j := j * 4 + 2) (u := y2) (by rw [List.getElem?_set_ne (by omega), List.getElem?_set_ne (by omega)]; exact hy2)
              have z2 := own_frozen o2 (j * 4 + 2)
              have s3 := own_at o3 (j := j * 4 + 3) (u := y3) (by rw [List.getElem?_set_ne (by omega), List.getElem?_set_ne (by omega), List.getElem?_set_ne (by omega)]; exact hy3)
              have z3 := own_frozen o3 (j * 4 + 3)
              have s1' := own_at hown hy1
              have s2' := own_at hown hy2
              have s3' := own_at hown hy3
              have z1' := own_frozen hown (j * 4 + 1)
              have z2' := own_frozen hown (j * 4 + 2)
              have z3' := own_frozen hown (j * 4 + 3)
              have x6 : Fx (fun k => (gF p).ownBlock = some k) wr ((((wr.setCell ⟨gf, j * 4, none⟩ (.int .i64 (i : Int))).setCell ⟨gf, j * 4 + 1, none⟩ (.int .i64 (j : Int))).setCell ⟨gf, j * 4 + 2, none⟩ (.int .i64 0)).setCell ⟨gf, j * 4 + 3, none⟩ (.slice none 0 0)) := by
                have hb : (gF p).ownBlock = some gf := by rw [hgF]; rfl
                exact ((((Fx.refl (fun k => (gF p).ownBlock = some k) wr).set (p := ⟨gf, j * 4, none⟩) (.inl hb) _).set (p := ⟨gf, j * 4 + 1, none⟩) (.inl hb) _).set (p := ⟨gf, j * 4 + 2, none⟩) (.inl hb) _).set (p := ⟨gf, j * 4 + 3, none⟩) (.inl hb) _
              have hty := own_typ (hO.2.2.2.1 i p hp).2 (by decide)
              have hO6 := hO.stepF hp (by rw [hgF, hnf]; exact o4) x6
              have hM6 := (hM.fx x6 hty).setF ((((((FX i).set (j * 4) (.int .i64 (i : Int))).set (j * 4 + 1) (.int .i64 (j : Int))).set (j * 4 + 2) (.int .i64 0)).set (j * 4 + 3) (.slice none 0 0)))
              have HE := hid_mk (And.intro hgj (And.intro hn2 (And.intro hO6 (And.intro hM6 (And.intro (hMj.fx x6 hty) (hMf.up (by omega) (.int .i64 0) (.slice none 0 0)))))))
              clear hO hM hMj hMf hgo hn hn1 hn2 hp hgT hnt hgF hnf hgj hjn hown q1 q2 q3 hXl hy0 hy1 hy2 hy3 o1 o2 o3 o4 x6 hty hO6 hM6 l1 l2
              go_wp2
              exact ⟨⟨j + 1, _, up_V (K := 64) (by have := HE.out; omega) (by omega), HE.out.1, HE.out.2.2.1, HE.out.2.2.2.1, HE.out.2.2.2.2.1, by rw [upd_at]; exact HE.out.2.2.2.2.2⟩, by rw [up_W (K := 64) (by have := HE.out; omega) (by omega)]; exact ms_N HE.out.1⟩
            · obtain rfl : nf = j := by omega
              have p1 : decide ((nf : Int) < (nf : Int)) = false := by simp
              have hMu := hM.up hp (by rw [hnt]; exact hMj) (by rw [hnf]; exact hMf)
              have HE := hid_mk (And.intro hgo (And.intro hn (And.intro hO hMu)))
              clear hO hM hMj hMf hgo hn hn1 hn2 hp hgT hnt hgF hnf hgj hjn hMu l1 l2
              go_wp2
              exact ⟨⟨i + 1, _, _, up_V HE.out.1 (by have := HE.out; omega), HE.out.1, HE.out.2.2⟩, by rw [up_W HE.out.1 (by have := HE.out; omega)]; exact ms_N HE.out.1⟩
    · obtain rfl : np = i := by omega
      have l1 : decide ((np : Int) < (np : Int)) = false := by simp
      have HW : Hid (OS w wr lo bk bx pa np pk Ps TX FX ∧ OMk wr np Ps TX FX) := hid_mk ⟨hO, hM⟩
      clear hgo hO hM him HO
      go_wp2
      clear k2
      go_loopw [6] (fun c wr => ∃ (i : Nat), c = .int .i64 i ∧ i ≤ np ∧ OS w wr lo bk bx pa np pk Ps TX FX ∧ OMk wr np Ps TX FX) (fun c _ => np - (intOf c).toNat)
      case atStart => exact ⟨0, rfl, Nat.zero_le _, HW.out⟩
      case round =>
        obtain ⟨i, rfl, him, hO, hM⟩ := hrel
        have k2 := hO.cell2
        by_cases hgo : i < np
        · obtain ⟨l1, l2⟩ := lt_d hgo
          obtain ⟨p, pg, hp, rfl, c1, c2⟩ := hO.row hgo
          obtain ⟨ta, nt, tc, hgT, hnt⟩ : ∃ ta nt tc, gT p = .slice ta nt tc ∧ (gTs p).length = nt := ⟨_, _, _, rfl, rfl⟩
          obtain ⟨fa, nf, fc, hgF, hnf⟩ : ∃ fa nf fc, gF p = .slice fa nf fc ∧ (gFs p).length = nf := ⟨_, _, _, rfl, rfl⟩
          have lmi : (i : Int) < (np : Int) := by omega
          have HI : Hid (i < np ∧ np ≤ 1000 ∧ nt ≤ 64 ∧ nf ≤ 64 ∧ Ps[i]? = some p ∧ gT p = .slice ta nt tc ∧ (gTs p).length = nt ∧ gF p = .slice fa nf fc ∧ (gFs p).length = nf) := hid_mk ⟨hgo, HH.out.2.2, by have := (HH.out.2.1 i p hp).1; omega, by have := (HH.out.2.1 i p hp).2.1; omega, hp, hgT, hnt, hgF, hnf⟩
          have HW2 : Hid (OS w wr lo bk bx (some ⟨pg, 0, none⟩) np pk Ps TX FX ∧ OMk wr np Ps TX FX) := hid_mk ⟨hO, hM⟩
          clear hO hM hgo him c1 c2 hp hgT hnt hgF hnf HW
          go_wp2
          clear k2
          go_loopw [7] (fun c wr => ∃ (g : Nat), c = .int .i64 g ∧ 1 ≤ g ∧ g ≤ 18 ∧ OS w wr lo bk bx (some ⟨pg, 0, none⟩) np pk Ps TX FX ∧ OMk wr np Ps TX FX) (fun c _ => 18 - (intOf c).toNat)
          case atStart => exact ⟨1, rfl, by omega, by omega, HW2.out⟩
          case round =>
            obtain ⟨g, rfl, hg1, hg2, hO, hM⟩ := hrel
            by_cases hgg : g ≤ 17
            · have p1 := le_d hgg
              obtain ⟨hgo, hn, hn1, hn2, hp, hgT, hnt, hgF, hnf⟩ := HI.out
              have k2 := hO.cell2
              have c1 := (hO.cells hp).1
              rw [hgT] at c1
              obtain ⟨G, hG⟩ : ∃ G, grV g = G := ⟨_, rfl⟩
              obtain ⟨hG1, hG2⟩ := gr_b hg1
              rw [hG] at hG1 hG2
              obtain ⟨V3, hV3⟩ : ∃ V3, wr.drew = V3 := ⟨_, rfl⟩
              have oV : Out 0 0 wr V3 := by rw [← hV3]; exact (Out.refl 0 0 wr).drew
              have hOV := hO.quiet oV
              have hsV : lo ≤ V3.heap.size := Nat.le_trans (Nat.le_trans HH.out.1 hO.2.2.2.2.2.2.size) oV.size
              have hownT := (hOV.2.2.2.1 i p hp).1
              rw [hgT, hnt] at hownT
              obtain ⟨N, hN⟩ : ∃ N, nt + G = N := ⟨_, rfl⟩
              obtain ⟨e, he⟩ : ∃ e, nt + G - 1 = e := ⟨_, rfl⟩
              obtain ⟨g4, cap4, w6, hr, hcs, ⟨cur, hbl⟩, hk6, x6, hor⟩ := zer_gen (T := 25) (I := 3) (m := G) Tryd.underlying25 Tryd.underlying3 info_bs rfl (by decide) (by decide) (by intro u hu; simp [Value.cells] at hu; subst hu; rfl) hownT hsV (by omega) hG1 hG2 25
              obtain ⟨u, hu⟩ := hcs e (by omega)
              have hf6 := hbl.frozen e
              obtain ⟨t6, ht6⟩ : ∃ t6, w6.heap.size = t6 := ⟨_, rfl⟩
              have oX : Out 0 0 w6 (w6.alloc (.cells #[.int .u8 0] 5)) := (Out.refl 0 0 w6).alloc _
              have hblX := hbl.kept oX (.inr (Nat.zero_le _))
              have huX := oX.cell hu (.inr (Nat.zero_le _))
              have hfX := hblX.frozen e
              obtain ⟨W7, hW7⟩ : ∃ W7, (w6.alloc (.cells #[.int .u8 0] 5)).setCell ⟨g4, e, none⟩ (.slice (some ⟨t6, 0, none⟩) 1 1) = W7 := ⟨_, rfl⟩
              have x7 : Fx (fun k => (gT p).ownBlock = some k) V3 W7 := by
                rw [← hW7, hgT]
                exact (x6.alloc _).set (p := ⟨g4, e, none⟩) hor _
              have hk7 : W7.ownsRow lo 22 1 (gT p) (gTs p).length (TX i) := by
                rw [← hW7, hgT, hnt]
                exact own_far (own_fx (S := fun _ => False) hk6 (Fx.of_out oX) (fun _ _ q => q)) g4 e (by omega) _
              have htyT := own_typ (hOV.2.2.2.1 i p hp).1 (by decide)
              have hO7 := hOV.sameT hp hk7 x7
              have hM7 := (hM.quiet oV).fx x7 htyT
              have hsub := sub_1 (N := N) (e := e) (by omega) (by omega)
              have lt : (e : Int) < (N : Int) := by omega
              have d6 : w6.cell? ⟨bk, 2, none⟩ = some (.slice (some ⟨pg, 0, none⟩) np pk) := x6.cell hOV.cell2 (by rw [← hgT]; exact own_no (hOV.2.2.2.1 i p hp).1 hOV.1 (by decide))
              have d7 : w6.cell? ⟨pg, i * 3 + 1, none⟩ = some (.slice ta nt tc) := by
                have h1 := (hOV.cells hp).1
                rw [hgT] at h1
                exact x6.cell h1 (by rw [← hgT]; exact fun e => own_apart (hOV.2.2.2.1 i p hp).1 hOV.2.2.1 (by decide) e rfl)
              rw [hN] at hr
              have HR := hid_mk hr
              have HGr := hid_mk (fun V : World => hG ▸ grows_any V g)
              have HG : Hid (1 ≤ g ∧ g ≤ 17) := hid_mk ⟨hg1, hgg⟩
              have HD : Hid (w6.cell? ⟨bk, 2, none⟩ = some (.slice (some ⟨pg, 0, none⟩) np pk) ∧ w6.cell? ⟨pg, i * 3 + 1, none⟩ = some (.slice ta nt tc)) := hid_mk ⟨d6, d7⟩
              have HVc : Hid (V3.cell? ⟨bk, 2, none⟩ = some (.slice (some ⟨pg, 0, none⟩) np pk) ∧ V3.cell? ⟨pg, i * 3 + 1, none⟩ = some (.slice ta nt tc)) := hid_mk ⟨oV.cell k2 (.inr (Nat.zero_le _)), oV.cell c1 (.inr (Nat.zero_le _))⟩
              have HCU := hid_mk (And.intro hu (And.intro hf6 (And.intro huX hfX)))
              have HSU := hid_mk hsub
              have H7 := hid_mk (And.intro hO7 (And.intro hM7 (Nat.le_trans HH.out.1 hO7.2.2.2.2.2.2.size)))
              have HGB : Hid (0 < G ∧ G ≤ 1000) := hid_mk ⟨hG1, hG2⟩
              clear hO hM hgo hn hn1 hn2 hp hgT hnt hgF hnf hg1 hg2 hgg hG hG1 hG2 oV hOV hsV hownT hN he hr hcs hbl hk6 x6 hor hu hf6 oX hblX huX hfX x7 hk7 htyT hO7 hM7 hsub d6 d7 l1 l2
              go_wp2_with fail
              refine wp_region_held_drew (S := fun w' => w'.cell? ⟨bk, 2, none⟩ = some (.slice (some ⟨pg, 0, none⟩) np pk) ∧ w'.cell? ⟨pg, i * 3 + 1, none⟩ = some (.slice ta nt tc)) (by kernel_rfl) ?hS17 (fun hHeld => ?rest17)
              case hS17 => exact ⟨k2, c1⟩
              refine tk 0 ?_
              refine tk 1 ?_
              refine tk 2 ?_
              refine tk 3 ?_
              refine tk 4 ?_
              refine tk 5 ?_
              refine tk 6 ?_
              refine tk 7 ?_
              refine tk 8 ?_
              refine wpAnyH_ready (rs := [9]) (by kernel_rfl) (by simp) ?_
              refine AllReadyH.cons rfl (fun KK hK => ?_) AllReadyH.nil
              simp only [xa, xb, xc]
              go_simp
              (try rw [hV3])
              refine calls_same (HGr.out _) ?_
              refine hK.out _ _ ?hS27 (fun hHeld2 => ?rest27)
              case hS27 => exact HVc.out
              clear hK KK
              (try clear hHeld)
              have hHeld := hHeld2
              clear hHeld2
              (try simp only [Act.put, xa, xb, xc, xd, xe, xf])
              refine wpAnyH_ready (rs := [10]) (by kernel_rfl) (by simp) ?_
              refine AllReadyH.cons rfl (fun KK hK => ?_) AllReadyH.nil
              simp only [xa, xb, xc]
              refine app_sr V3 _ _ _ _ rfl _ _ rfl rfl HR.out ?_
              refine hK.out _ _ ?hS28 (fun hHeld2 => ?rest28)
              case hS28 => exact HD.out
              clear hK KK
              (try clear hHeld)
              have hHeld := hHeld2
              clear hHeld2
              (try simp only [Act.put, xa, xb, xc, xd, xe, xf])
              refine tk 11 ?_
              refine wpAnyH_done (by kernel_rfl) ?_ _
              obtain ⟨hu, hf6, huX, hfX⟩ := HCU.out
              have hsub := HSU.out
              clear hHeld hV3 HR HVc HD k2 c1 HCU HSU
              go_upto_region 20 with fail
              (try rw [ht6])
              (try rw [hW7])
              clear hu hf6 huX hfX hsub hW7 ht6 lt
              obtain ⟨hO, hM, hs7⟩ := H7.out
              obtain ⟨hgo, hn, hn1, hn2, hp, hgT, hnt, hgF, hnf⟩ := HI.out
              obtain ⟨hG1, hG2⟩ := HGB.out
              have k2 := hO.cell2
              have c2 := (hO.cells hp).2
              rw [hgF] at c2
              obtain ⟨V4, hV4⟩ : ∃ V4, W7.drew = V4 := ⟨_, rfl⟩
              have oV : Out 0 0 W7 V4 := by rw [← hV4]; exact (Out.refl 0 0 W7).drew
              have hOV := hO.quiet oV
              have hownF := (hOV.2.2.2.1 i p hp).2
              rw [hgF, hnf] at hownF
              obtain ⟨M, hMM⟩ : ∃ M, nf + G = M := ⟨_, rfl⟩
              obtain ⟨e5, he5⟩ : ∃ e5, nf + G - 1 = e5 := ⟨_, rfl⟩
              obtain ⟨g5, cap5, w8, hr, hcs, ⟨cur5, hbl⟩, hk8, x8, hor⟩ := zer_gen (T := 33) (I := 3) (m := G) Tryd.underlying33 Tryd.underlying3 info_fnX rfl (by decide) (by decide) (by intro u hu; simp [Value.cells] at hu; rcases hu with rfl | rfl <;> rfl) hownF (Nat.le_trans hs7 oV.size) (by omega) hG1 hG2 33
              obtain ⟨u5, hu5⟩ := hcs (e5 * 4) (by omega)
              have hf8 := hbl.frozen (e5 * 4)
              obtain ⟨W9, hW9⟩ : ∃ W9, w8.setCell ⟨g5, e5 * 4, none⟩ (.int .i64 9) = W9 := ⟨_, rfl⟩
              have x9 : Fx (fun k => (gF p).ownBlock = some k) V4 W9 := by
                rw [← hW9, hgF]
                exact x8.set (p := ⟨g5, e5 * 4, none⟩) hor _
              have hk9 : W9.ownsRow lo 40 4 (gF p) (gFs p).length (FX i) := by
                rw [← hW9, hgF, hnf]
                exact own_far hk8 g5 (e5 * 4) (by omega) _
              have htyF := own_typ (hOV.2.2.2.1 i p hp).2 (by decide)
              have hO9 := hOV.sameF hp hk9 x9
              have hM9 := (hM.quiet oV).fx x9 htyF
              have hsub5 := sub_1 (N := M) (e := e5) (by omega) (by omega)
              have lt5 : (e5 : Int) < (M : Int) := by omega
              have d8 : w8.cell? ⟨bk, 2, none⟩ = some (.slice (some ⟨pg, 0, none⟩) np pk) := x8.cell hOV.cell2 (by rw [← hgF]; exact own_no (hOV.2.2.2.1 i p hp).2 hOV.1 (by decide))
              have d9 : w8.cell? ⟨pg, i * 3 + 2, none⟩ = some (.slice fa nf fc) := by
                have h1 := (hOV.cells hp).2
                rw [hgF] at h1
                exact x8.cell h1 (by rw [← hgF]; exact fun e => own_apart (hOV.2.2.2.1 i p hp).2 hOV.2.2.1 (by decide) e rfl)
              rw [hMM] at hr
              have HR := hid_mk hr
              have HD : Hid (w8.cell? ⟨bk, 2, none⟩ = some (.slice (some ⟨pg, 0, none⟩) np pk) ∧ w8.cell? ⟨pg, i * 3 + 2, none⟩ = some (.slice fa nf fc)) := hid_mk ⟨d8, d9⟩
              have HVc : Hid (V4.cell? ⟨bk, 2, none⟩ = some (.slice (some ⟨pg, 0, none⟩) np pk) ∧ V4.cell? ⟨pg, i * 3 + 2, none⟩ = some (.slice fa nf fc)) := hid_mk ⟨oV.cell k2 (.inr (Nat.zero_le _)), oV.cell c2 (.inr (Nat.zero_le _))⟩
              have HCU := hid_mk (And.intro hu5 hf8)
              have HSU := hid_mk hsub5
              have H9 := hid_mk (And.intro hO9 hM9)
              clear hO hM hs7 hgo hn hn1 hn2 hp hgT hnt hgF hnf hG1 hG2 oV hOV hownF hMM he5 hr hcs hbl hk8 x8 hor hu5 hf8 x9 hk9 htyF hO9 hM9 hsub5 d8 d9 H7
              refine wp_region_held_drew (S := fun w' => w'.cell? ⟨bk, 2, none⟩ = some (.slice (some ⟨pg, 0, none⟩) np pk) ∧ w'.cell? ⟨pg, i * 3 + 2, none⟩ = some (.slice fa nf fc)) (by kernel_rfl) ?hS30 (fun hHeld => ?rest30)
              case hS30 => exact ⟨k2, c2⟩
              refine tk 0 ?_
              refine tk 1 ?_
              refine tk 2 ?_
              refine tk 3 ?_
              refine tk 4 ?_
              refine tk 5 ?_
              refine tk 6 ?_
              refine tk 7 ?_
              refine tk 8 ?_
              refine wpAnyH_ready (rs := [9]) (by kernel_rfl) (by simp) ?_
              refine AllReadyH.cons rfl (fun KK hK => ?_) AllReadyH.nil
              simp only [xa, xb, xc]
              go_simp
              (try rw [hV4])
              refine calls_same (HGr.out _) ?_
              refine hK.out _ _ ?hS40 (fun hHeld2 => ?rest40)
              case hS40 => exact HVc.out
              clear hK KK
              (try clear hHeld)
              have hHeld := hHeld2
              clear hHeld2
              (try simp only [Act.put, xa, xb, xc, xd, xe, xf])
              refine wpAnyH_ready (rs := [10]) (by kernel_rfl) (by simp) ?_
              refine AllReadyH.cons rfl (fun KK hK => ?_) AllReadyH.nil
              simp only [xa, xb, xc]
              refine app_sr V4 _ _ _ _ rfl _ _ rfl rfl HR.out ?_
              refine hK.out _ _ ?hS41 (fun hHeld2 => ?rest41)
              case hS41 => exact HD.out
              clear hK KK
              (try clear hHeld)
              have hHeld := hHeld2
              clear hHeld2
              (try simp only [Act.put, xa, xb, xc, xd, xe, xf])
              refine tk 11 ?_
              refine wpAnyH_done (by kernel_rfl) ?_ _
              obtain ⟨hu5, hf8⟩ := HCU.out
              have hsub5 := HSU.out
              clear hHeld hV4 HR HVc HD k2 c2 HCU HSU HGr
              go_wp2
              (try rw [hW9])
              exact ⟨⟨g + 1, up_V (K := 18) (by have := HG.out; omega) (by omega), by omega, by have := HG.out; omega, by first | exact H9.out | (rw [hW9]; exact H9.out)⟩, by rw [up_W (K := 18) (by have := HG.out; omega) (by omega)]; exact ms_17 HG.out.2⟩
            · have p1 := gt_d hgg
              have HE : Hid (i < np ∧ np ≤ 1000 ∧ OS w wr lo bk bx (some ⟨pg, 0, none⟩) np pk Ps TX FX ∧ OMk wr np Ps TX FX) := hid_mk ⟨HI.out.1, HI.out.2.1, hO, hM⟩
              clear hO hM hg1 hg2 hgg
              go_wp2
              exact ⟨⟨i + 1, up_V HE.out.1 (by have := HE.out; omega), HE.out.1, HE.out.2.2⟩, by rw [up_W HE.out.1 (by have := HE.out; omega)]; exact ms_N HE.out.1⟩
        · obtain rfl : np = i := by omega
          have l1 : decide ((np : Int) < (np : Int)) = false := by simp
          have HW3 : Hid (OS w wr lo bk bx pa np pk Ps TX FX ∧ OMk wr np Ps TX FX) := hid_mk ⟨hO, hM⟩
          clear hgo hO hM him HW
          go_wp2
          clear k2
          go_loopw [10] (fun c wr => ∃ (i : Nat), c = .int .i64 i ∧ i ≤ np ∧ OS w wr lo bk bx pa np pk Ps TX FX ∧ OMk wr np Ps TX FX) (fun c _ => np - (intOf c).toNat)
          case atStart => exact ⟨0, rfl, Nat.zero_le _, HW3.out⟩
          case round =>
            obtain ⟨i, rfl, him, hO, hM⟩ := hrel
            have k2 := hO.cell2
            by_cases hgo : i < np
            · obtain ⟨l1, l2⟩ := lt_d hgo
              obtain ⟨p, pg, hp, rfl, c1, c2⟩ := hO.row hgo
              obtain ⟨ta, nt, tc, hgT, hnt⟩ : ∃ ta nt tc, gT p = .slice ta nt tc ∧ (gTs p).length = nt := ⟨_, _, _, rfl, rfl⟩
              obtain ⟨fa, nf, fc, hgF, hnf⟩ : ∃ fa nf fc, gF p = .slice fa nf fc ∧ (gFs p).length = nf := ⟨_, _, _, rfl, rfl⟩
              have lmi : (i : Int) < (np : Int) := by omega
              have HI : Hid (i < np ∧ np ≤ 1000 ∧ nt ≤ 64 ∧ nf ≤ 64 ∧ Ps[i]? = some p ∧ gT p = .slice ta nt tc ∧ (gTs p).length = nt ∧ gF p = .slice fa nf fc ∧ (gFs p).length = nf) := hid_mk ⟨hgo, HH.out.2.2, by have := (HH.out.2.1 i p hp).1; omega, by have := (HH.out.2.1 i p hp).2.1; omega, hp, hgT, hnt, hgF, hnf⟩
              have HW2 : Hid (OS w wr lo bk bx (some ⟨pg, 0, none⟩) np pk Ps TX FX ∧ OMk wr np Ps TX FX) := hid_mk ⟨hO, hM⟩
              clear hO hM hgo him c1 c2 hp hgT hnt hgF hnf HW3
              go_wp2
              clear k2
              go_loopw [11] (fun cj wz => ∃ (j : Nat), cj = .int .i64 j ∧ j ≤ nt ∧ OS w wz lo bk bx (some ⟨pg, 0, none⟩) np pk Ps TX FX ∧ OMk wz np Ps TX FX) (fun cj _ => nt - (intOf cj).toNat)
              case atStart => exact ⟨0, rfl, Nat.zero_le _, HW2.out⟩
              case round =>
                obtain ⟨j, rfl, hjn, hO, hM⟩ := hrel
                have k2 := hO.cell2
                obtain ⟨hgo, hn, hn1, hn2, hp, hgT, hnt, hgF, hnf⟩ := HI.out
                have c1 := (hO.cells hp).1
                rw [hgT] at c1
                by_cases hgj : j < nt
                · obtain ⟨p1, p2⟩ := lt_d hgj
                  have hown := (hO.2.2.2.1 i p hp).1
                  rw [hgT, hnt] at hown
                  obtain ⟨gt, cur, rfl, q1, q2, q3, -⟩ := own_cellsX hown (by omega)
                  obtain ⟨v, hv, t1, rfl, hb⟩ := (hM i p hgo hp).1 j (by omega)
                  have c3 := own_at hown hv
                  have lmj : (j : Int) < (nt : Int) := by omega
                  obtain ⟨mi, hmi⟩ : ∃ mi, mkV i = mi := ⟨_, rfl⟩
                  obtain ⟨mj, hmj⟩ : ∃ mj, mkV j = mj := ⟨_, rfl⟩
                  have HM1 := hid_mk (fun V : World => hmi ▸ mark_any V i (by omega))
                  have HM2 := hid_mk (fun V : World => hmj ▸ mark_any V j (by omega))
                  have hBt := mk2_byt i j
                  rw [hmi, hmj] at hb hBt
                  obtain ⟨st, hst⟩ : ∃ st, strOfNums [mi, mj] = st := ⟨_, rfl⟩
                  obtain ⟨V3, hV3⟩ : ∃ V3, wr.drew = V3 := ⟨_, rfl⟩
                  have oV : Out 0 0 wr V3 := by rw [← hV3]; exact (Out.refl 0 0 wr).drew
                  obtain ⟨X1, hX1⟩ : ∃ X1, V3.alloc (.cells #[.int .u8 mi, .int .u8 mj] 5) = X1 := ⟨_, rfl⟩
                  obtain ⟨t2, ht2⟩ : ∃ t2, V3.heap.size = t2 := ⟨_, rfl⟩
                  have oX : Out 0 0 V3 X1 := by rw [← hX1]; exact (Out.refl 0 0 V3).alloc _
                  have bX : Bl X1 t2 #[.int .u8 mi, .int .u8 mj] 5 := by rw [← hX1, ← ht2]; exact Bl.new _ _ _
                  have oA := oV.trans oX
                  have cv : ∀ W, Out 0 0 wr W → (Go.convert 22 9 (.slice (some ⟨t1, 0, none⟩) 2 2)).run Tryd.prog W = .ok (.string st) W := by
                    intro W o
                    have := conv_bytes (w := W) (c := 2) (bl2_by hBt (hb.kept o (.inr (Nat.zero_le _)))) (show [mi, mj].length = 2 from rfl)
                    rwa [hst] at this
                  have cx : (Go.convert 22 9 (.slice (some ⟨t2, 0, none⟩) 2 2)).run Tryd.prog X1 = .ok (.string st) X1 := by
                    have := conv_bytes (w := X1) (c := 2) (bl2_by hBt bX) (show [mi, mj].length = 2 from rfl)
                    rwa [hst] at this
                  have HC : Hid (∀ W, Out 0 0 wr W → W.cell? ⟨bk, 2, none⟩ = some (.slice (some ⟨pg, 0, none⟩) np pk) ∧ W.cell? ⟨pg, i * 3 + 1, none⟩ = some (.slice (some ⟨gt, 0, none⟩) nt tc) ∧ W.cell? ⟨gt, j, none⟩ = some (.slice (some ⟨t1, 0, none⟩) 2 2) ∧ (Go.convert 22 9 (.slice (some ⟨t1, 0, none⟩) 2 2)).run Tryd.prog W = .ok (.string st) W) := hid_mk fun W o => ⟨o.cell k2 (.inr (Nat.zero_le _)), o.cell c1 (.inr (Nat.zero_le _)), o.cell c3 (.inr (Nat.zero_le _)), cv W o⟩
                  have HE : Hid (j < nt ∧ nt ≤ 64 ∧ OS w X1 lo bk bx (some ⟨pg, 0, none⟩) np pk Ps TX FX ∧ OMk X1 np Ps TX FX) := hid_mk ⟨hgj, hn1, hO.quiet oA, hM.quiet oA⟩
                  have HOV := hid_mk oV
                  have HOA := hid_mk oA
                  have HCX := hid_mk cx
                  have HCV := hid_mk (cv wr (Out.refl 0 0 wr))
                  clear hO hM hgo hn hn1 hn2 hp hgT hnt hgF hnf hgj hjn hown q1 q2 q3 hv hb hmi hmj hBt hst oX bX oA cv cx l1 l2 oV
                  go_wp2_with fail
                  refine wp_region_held_drew (S := fun w' => w'.cell? ⟨bk, 2, none⟩ = some (.slice (some ⟨pg, 0, none⟩) np pk) ∧ w'.cell? ⟨pg, i * 3 + 1, none⟩ = some (.slice (some ⟨gt, 0, none⟩) nt tc) ∧ w'.cell? ⟨gt, j, none⟩ = some (.slice (some ⟨t1, 0, none⟩) 2 2) ∧ (Go.convert 22 9 (.slice (some ⟨t1, 0, none⟩) 2 2)).run Tryd.prog w' = .ok (.string st) w') (by kernel_rfl) ?hS43 (fun hHeld => ?rest43)
                  case hS43 => first | exact ⟨k2, c1, c3, HCV.out⟩ | exact HC.out _ (Out.refl 0 0 wr).drew
                  refine tk 0 ?_
                  refine tk 1 ?_
                  refine tk 2 ?_
                  refine tk 3 ?_
                  refine tk 4 ?_
                  refine tk 5 ?_
                  refine tk 6 ?_
                  refine tk 7 ?_
                  refine tk 8 ?_
                  refine tk 9 ?_
                  refine tk 10 ?_
                  refine tk 11 ?_
                  refine tk 12 ?_
                  refine tk 14 ?_
                  refine wpAnyH_ready (rs := [13]) (by kernel_rfl) (by simp) ?_
                  refine AllReadyH.cons rfl (fun KK hK => ?_) AllReadyH.nil
                  simp only [xa, xb, xc]
                  go_simp
                  (try rw [hV3])
                  refine calls_same (HM1.out _) ?_
                  refine hK.out _ _ ?hS58 (fun hHeld2 => ?rest58)
                  case hS58 => exact HC.out _ HOV.out
                  clear hK KK
                  (try clear hHeld)
                  have hHeld := hHeld2
                  clear hHeld2
                  (try simp only [Act.put, xa, xb, xc, xd, xe, xf])
                  refine wpAnyH_ready (rs := [15]) (by kernel_rfl) (by simp) ?_
                  refine AllReadyH.cons rfl (fun KK hK => ?_) AllReadyH.nil
                  simp only [xa, xb, xc]
                  go_simp
                  refine calls_same (HM2.out _) ?_
                  refine hK.out _ _ ?hS59 (fun hHeld2 => ?rest59)
                  case hS59 => exact HC.out _ HOV.out
                  clear hK KK
                  (try clear hHeld)
                  have hHeld := hHeld2
                  clear hHeld2
                  (try simp only [Act.put, xa, xb, xc, xd, xe, xf])
                  refine wpAnyH_ready (rs := [16]) (by kernel_rfl) (by simp) ?_
                  refine AllReadyH.cons rfl (fun KK hK => ?_) AllReadyH.nil
                  simp only [xa, xb, xc]
                  go_simp
                  (try rw [hX1])
                  (try rw [ht2])
                  refine hK.out _ _ ?hS60 (fun hHeld2 => ?rest60)
                  case hS60 => exact HC.out _ HOA.out
                  clear hK KK
                  (try clear hHeld)
                  have hHeld := hHeld2
                  clear hHeld2
                  (try simp only [Act.put, xa, xb, xc, xd, xe, xf])
                  refine wpAnyH_ready (rs := [17]) (by kernel_rfl) (by simp) ?_
                  refine AllReadyH.cons rfl (fun KK hK => ?_) AllReadyH.nil
                  simp only [xa, xb, xc]
                  have cx := HCX.out
                  go_simp
                  refine hK.out _ _ ?hS61 (fun hHeld2 => ?rest61)
                  case hS61 => exact HC.out _ HOA.out
                  clear hK KK
                  (try clear hHeld)
                  have hHeld := hHeld2
                  clear hHeld2
                  (try simp only [Act.put, xa, xb, xc, xd, xe, xf])
                  refine tk 18 ?_
                  refine wpAnyH_done (by kernel_rfl) ?_ _
                  clear hHeld hV3 hX1 ht2 HM1 HM2 HC HOV HOA HCX HCV k2 c1 c3
                  go_wp2
                  exact ⟨⟨j + 1, up_V (K := 64) (by have := HE.out; omega) (by omega), HE.out.1, HE.out.2.2⟩, by rw [up_W (K := 64) (by have := HE.out; omega) (by omega)]; exact ms_N HE.out.1⟩
                · obtain rfl : nt = j := by omega
                  have p1 : decide ((nt : Int) < (nt : Int)) = false := by simp
                  have HW4 : Hid (OS w wr lo bk bx (some ⟨pg, 0, none⟩) np pk Ps TX FX ∧ OMk wr np Ps TX FX) := hid_mk ⟨hO, hM⟩
                  clear hO hM hgo hn hn1 hn2 hp hgT hnt hgF hnf hgj hjn HW2
                  go_wp2
                  clear k2 c1
                  go_loopw [12] (fun cj wz => ∃ (j : Nat), cj = .int .i64 j ∧ j ≤ nf ∧ OS w wz lo bk bx (some ⟨pg, 0, none⟩) np pk Ps TX FX ∧ OMk wz np Ps TX FX) (fun cj _ => nf - (intOf cj).toNat)
                  case atStart => exact ⟨0, rfl, Nat.zero_le _, HW4.out⟩
                  case round =>
                    obtain ⟨j, rfl, hjn, hO, hM⟩ := hrel
                    have k2 := hO.cell2
                    obtain ⟨hgo, hn, hn1, hn2, hp, hgT, hnt, hgF, hnf⟩ := HI.out
                    have c2 := (hO.cells hp).2
                    rw [hgF] at c2
                    by_cases hgj : j < nf
                    · obtain ⟨p1, p2⟩ := lt_d hgj
                      have hown := (hO.2.2.2.1 i p hp).2
                      rw [hgF, hnf] at hown
                      obtain ⟨gf, cur, rfl, q1, q2, q3, -⟩ := own_cellsX hown (by omega)
                      obtain ⟨m1, m2⟩ := (hM i p hgo hp).2 j (by omega)
                      have s0 := own_at hown m1
                      have s1 := own_at hown m2
                      have lmj : (j : Int) < (nf : Int) := by omega
                      have HE : Hid (j < nf ∧ nf ≤ 64 ∧ OS w wr lo bk bx (some ⟨pg, 0, none⟩) np pk Ps TX FX ∧ OMk wr np Ps TX FX) := hid_mk ⟨hgj, hn2, hO, hM⟩
                      clear hO hM hgo hn hn1 hn2 hp hgT hnt hgF hnf hgj hjn hown q1 q2 q3 m1 m2 l1 l2
                      go_wp2
                      exact ⟨⟨j + 1, up_V (K := 64) (by have := HE.out; omega) (by omega), HE.out.1, HE.out.2.2⟩, by rw [up_W (K := 64) (by have := HE.out; omega) (by omega)]; exact ms_N HE.out.1⟩
                    · obtain rfl : nf = j := by omega
                      have p1 : decide ((nf : Int) < (nf : Int)) = false := by simp
                      have HE := hid_mk (And.intro hgo (And.intro hn (And.intro hO hM)))
                      clear hO hM hgo hn hn1 hn2 hp hgT hnt hgF hnf hgj hjn l1 l2
                      go_wp2
                      exact ⟨⟨i + 1, up_V HE.out.1 (by have := HE.out; omega), HE.out.1, HE.out.2.2⟩, by rw [up_W HE.out.1 (by have := HE.out; omega)]; exact ms_N HE.out.1⟩
            · obtain rfl : np = i := by omega
              have l1 : decide ((np : Int) < (np : Int)) = false := by simp
              have HE := hid_mk hO.2.2.2.2.2.2
              clear hgo hO hM him
              go_wp2
              go_ret
              exact ⟨rfl, HE.out⟩
end Go.Proofs.YtapjfokkcgdhhaaDoor
