import Derived.Test.YtapjfokkcgdhhaaDoorQaq
import Derived.Deep.Cut
namespace Go.Proofs.YtapjfokkcgdhhaaDoor
open Go.RowKit
set_option linter.unusedVariables false
set_option linter.unusedSimpArgs false

/-- the rows before the i-th are full of their marks -/
def Mkd (i : Nat) (L : List (List Int)) : Prop := ∀ (r : Nat) l, r < i → L[r]? = some l → ∀ x ∈ l, x = mkV r
/-- of a row the first places are -/
def Mk1 (i j : Nat) (l : List Int) : Prop := ∀ (k : Nat) x, k < j → l[k]? = some x → x = mkV i
theorem Mkd.set {i : Nat} {L : List (List Int)} (h : Mkd i L) (l : List Int) : Mkd i (L.set i l) := fun r l' hr hl => by
  rw [List.getElem?_set_ne (by omega)] at hl
  exact h r l' hr hl
theorem Mkd.up {i : Nat} {L : List (List Int)} {l : List Int} (h : Mkd i L) (hl : L[i]? = some l) (h1 : Mk1 i l.length l) : Mkd (i + 1) L := fun r l' hr hl' x hx => by
  by_cases hri : r = i
  · subst hri
    rw [hl] at hl'
    cases hl'
    obtain ⟨k, hk⟩ := List.getElem?_of_mem hx
    exact h1 k x (List.getElem?_eq_some_iff.1 hk).1 hk
  · exact h r l' (by omega) hl' x hx
theorem Mk1.set {i j : Nat} {l : List Int} (h : Mk1 i j l) : Mk1 i (j + 1) (l.set j (mkV i)) := fun k x hk hx => by
  rw [List.getElem?_set] at hx
  split at hx
  · split at hx
    · cases hx; rfl
    · cases hx
  · exact h k x (by omega) hx
/-- what the first loop of fullRows has done -/
def F1 (w wr : World) (lo : Nat) (ra : Option Addr) (n rk : Nat) (vs : List Value) (L : List (List Int)) : Prop := RW wr lo ra n rk vs L ∧ Fx (RB vs) w wr ∧ (∀ l ∈ L, l.length ≤ 100000) ∧ n ≤ 100000
theorem F1.put {w wr : World} {lo : Nat} {ra : Option Addr} {n rk : Nat} {vs : List Value} {L : List (List Int)} {i g c j : Nat} {l : List Int} {y : Int} (h : F1 w wr lo ra n rk vs L) (hv : vs[i]? = some (.slice (some ⟨g, 0, none⟩) l.length c)) (hl : L[i]? = some l) (hy : 0 ≤ y ∧ y ≤ 255) : F1 w (wr.setCell ⟨g, j, none⟩ (.int .u8 y)) lo ra n rk vs (L.set i (l.set j y)) := by
  refine ⟨h.1.put hv hl hy, h.2.1.set (p := ⟨g, j, none⟩) (.inl ⟨i, _, hv, rfl⟩) _, fun l' hl' => ?_, h.2.2.2⟩
  rcases List.mem_or_eq_of_mem_set hl' with q | rfl
  · exact h.2.2.1 l' q
  · rw [List.length_set]; exact h.2.2.1 l (List.mem_of_getElem? hl)
theorem F1.same {w wr w' : World} {lo : Nat} {ra : Option Addr} {n rk : Nat} {vs : List Value} {L : List (List Int)} {i : Nat} {v : Value} {l : List Int} (h : F1 w wr lo ra n rk vs L) (hv : vs[i]? = some v) (hl : L[i]? = some l) (hT : TxL w' lo [] v l) (x : Fx (fun k => v.ownBlock = some k) wr w') : F1 w w' lo ra n rk vs L :=
  ⟨h.1.same hv hl hT x, h.2.1.trans (rb_wide hv x), h.2.2⟩
theorem up_i {i n : Nat} (h : i < n) (hn : n ≤ 100000) : i ≤ 1000000 := by omega
theorem sub_1 {N e : Nat} (h : e + 1 = N) (hN : N ≤ 1000000) : wrap64 ((N : Int) - 1) = (e : Int) := by unfold wrap64; omega
theorem gr_b {g : Nat} (h : 1 ≤ g) : 0 < grV g ∧ grV g ≤ 1000 := by unfold grV; split <;> omega
theorem le_d {g : Nat} (h : g ≤ 17) : decide ((g : Int) ≤ 17) = true := by simp; omega
theorem gt_d {g : Nat} (h : ¬ g ≤ 17) : decide ((g : Int) ≤ 17) = false := by simp; omega
theorem ms_17 {k : Nat} (h : k ≤ 17) : 18 - (intOf (.int .i64 ((k + 1 : Nat) : Int))).toNat < 18 - (intOf (.int .i64 (k : Int))).toNat := by simp [intOf]; omega
theorem F1.drew {w wr : World} {lo : Nat} {ra : Option Addr} {n rk : Nat} {vs : List Value} {L : List (List Int)} (h : F1 w wr lo ra n rk vs L) : F1 w wr.drew lo ra n rk vs L := ⟨h.1.quiet (Out.refl 0 0 wr).drew, h.2.1.drew, h.2.2⟩
set_option maxRecDepth 100000 in
set_option maxHeartbeats 4000000 in
theorem full_any {w : World} {lo n rk : Nat} {ra : Option Addr} {vs : List Value} {L0 : List (List Int)} (hlo : lo ≤ w.heap.size) (h0 : RW w lo ra n rk vs L0) (hl : ∀ l ∈ L0, l.length ≤ 100000) (hn : n ≤ 100000) :
    Calls Tryd.prog 16 #[.slice ra n rk] w fun e w' => e = .returned (.bool true) ∧ Fx (RB vs) w w' := by
  have HF : Hid (F1 w w lo ra n rk vs L0) := hid_mk ⟨h0, Fx.refl _ _, hl, hn⟩
  have HLO := hid_mk hlo
  clear h0 hl hn hlo
  go_enter Tryd.func16, Tryd.ntmps16
  go_wp2
  go_loopw [3] (fun c wr => ∃ (i : Nat) (L : List (List Int)), c = .int .i64 i ∧ i ≤ n ∧ F1 w wr lo ra n rk vs L ∧ Mkd i L) (fun c _ => n - (intOf c).toNat)
  case atStart => exact ⟨0, L0, rfl, Nat.zero_le _, HF.out, fun r l hr => by omega⟩
  case round =>
    obtain ⟨i, L, rfl, him, hF, hM⟩ := hrel
    by_cases hgo : i < n
    · obtain ⟨l1, l2⟩ := lt_d hgo
      have HI : Hid (i < n ∧ n ≤ 100000) := hid_mk ⟨hgo, hF.2.2.2⟩
      obtain ⟨v, l, go, a, c, hv, hli, rfl, rfl, c1, hown⟩ := hF.1.row hgo
      obtain ⟨m, hm⟩ : ∃ m, l.length = m := ⟨_, rfl⟩
      have HW : Hid (F1 w wr lo (some ⟨go, 0, none⟩) n rk vs L ∧ Mkd i L ∧ L[i]? = some l ∧ l.length = m ∧ vs[i]? = some (.slice a m c)) := hid_mk ⟨hF, hM, hli, hm, hm ▸ hv⟩
      have lmi : (i : Int) < (n : Int) := by omega
      clear hF hM hv hli hown hgo him c1 hm
      go_wp2
      go_loopw [4] (fun cj wz => ∃ (j : Nat) (L' : List (List Int)) (l' : List Int), cj = .int .i64 j ∧ j ≤ m ∧ F1 w wz lo (some ⟨go, 0, none⟩) n rk vs L' ∧ Mkd i L' ∧ L'[i]? = some l' ∧ l'.length = m ∧ Mk1 i j l') (fun cj _ => m - (intOf cj).toNat)
      case atStart => exact ⟨0, L, l, rfl, Nat.zero_le _, HW.out.1, HW.out.2.1, HW.out.2.2.1, HW.out.2.2.2.1, fun k x hk => by omega⟩
      case round =>
        obtain ⟨j, L', l', rfl, hjm, hF, hM, hli, hm, hM1⟩ := hrel
        obtain ⟨v, l2, go2, a2, c2, hv, hli2, e2, e3, c1, hown⟩ := hF.1.row HI.out.1
        cases e2
        rw [hli] at hli2
        cases hli2
        rw [HW.out.2.2.2.2] at hv
        cases hv
        rw [hm] at e3 c1 hown
        cases e3
        have HJ : Hid (F1 w wr lo (some ⟨go, 0, none⟩) n rk vs L' ∧ Mkd i L' ∧ L'[i]? = some l' ∧ l'.length = m ∧ Mk1 i j l' ∧ m ≤ 100000) := hid_mk ⟨hF, hM, hli, hm, hM1, by have := hF.2.2.1 l' (List.mem_of_getElem? hli); omega⟩
        by_cases hgj : j < m
        · obtain ⟨p1, p2⟩ := lt_d hgj
          obtain ⟨g, cur, rfl, q1, q2, q3, -⟩ := own_cellsX hown (by omega)
          obtain ⟨y0, hy0⟩ : ∃ y, (bvs l')[j]? = some y := ⟨_, List.getElem?_eq_getElem (by rw [bvs_len]; omega)⟩
          have c2 := q2 j y0 hy0
          have f2 := q3.frozen j
          have lmj : (j : Int) < (m : Int) := by omega
          have HJ2 : Hid (j < m) := hid_mk hgj
          clear hF hM hli hm hM1 hown q1 q2 q3 hy0 hgj hjm l1 l2
          go_wp2_with fail
          obtain ⟨V3, hV3⟩ : ∃ V3, wr.drew = V3 := ⟨_, rfl⟩
          have HMa := hid_mk (mark_any V3 i (up_i HI.out.1 HI.out.2))
          refine wp_region_T (S := fun w' => w'.cell? ⟨go, i, none⟩ = some (.slice (some ⟨g, 0, none⟩) m c)) (z := 8) (by kernel_rfl) ?hS1 (fun hHeld => ?rest1)
          case hS1 => exact c1
          refine tkT 0 ?_
          refine tkT 1 ?_
          refine tkT 2 ?_
          refine tkT 3 ?_
          refine tkT 4 ?_
          refine tkT 5 ?_
          refine wpAnyT_one (i := 6) (by kernel_rfl) rfl (fun KK hK => ?_)
          simp only [xa, xb, xc]
          go_simp
          refine calls_same HMa.out ?_
          refine hK.out _ _ ?hS8 (fun hHeld2 => ?rest8)
          case hS8 => exact (by rw [← hV3]; exact c1)
          clear hK KK
          (try clear hHeld)
          have hHeld := hHeld2
          clear hHeld2
          (try simp only [Act.put, xa, xb, xc, xd, xe, xf])
          refine tkT 7 ?_
          refine wpAnyT_last (by kernel_rfl) rfl (fun KK hK => ?_)
          simp only [xa, xb, xc]
          have s9 : V3.cell? ⟨g, j, none⟩ = some y0 := (by rw [← hV3]; exact c2)
          have z9 : V3.frozen? ⟨g, j, none⟩ = false := (by rw [← hV3]; exact f2)
          go_simp
          refine hK.out _ _ ?_
          clear hK KK
          (try simp only [Act.put, xa, xb, xc, xd, xe, xf])
          refine wpAnyT_done (by kernel_rfl) ?_ _
          have hF6 := F1.put (j := j) (⟨HJ.out.1.1.quiet (Out.refl 0 0 wr).drew, HJ.out.1.2.1.drew, HJ.out.1.2.2⟩ : F1 w wr.drew lo (some ⟨go, 0, none⟩) n rk vs L') (by rw [HJ.out.2.2.2.1]; exact HW.out.2.2.2.2) HJ.out.2.2.1 (mkV_b i)
          rw [hV3] at hF6
          obtain ⟨W6, hW6⟩ : ∃ W6, V3.setCell ⟨g, j, none⟩ (.int .u8 (mkV i)) = W6 := ⟨_, rfl⟩
          rw [hW6] at hF6 ⊢
          have HF6 := hid_mk hF6
          clear hF6 hW6 hHeld hV3 HMa c1 c2 f2
          go_wp2
          exact ⟨⟨j + 1, _, _, up_V HJ2.out (by have := HJ.out.2.2.2.2.2; omega), HJ2.out, HF6.out, HJ.out.2.1.set _, List.getElem?_set_self (List.getElem?_eq_some_iff.1 HJ.out.2.2.1).1, by rw [List.length_set]; exact HJ.out.2.2.2.1, HJ.out.2.2.2.2.1.set⟩, by rw [up_W HJ2.out (by have := HJ.out.2.2.2.2.2; omega)]; exact ms_N HJ2.out⟩
        · obtain rfl : m = j := by omega
          have p1 : decide ((m : Int) < (m : Int)) = false := by simp
          clear hF hM hli hM1 hown hgj hjm l1 l2 hm
          go_wp2
          exact ⟨⟨i + 1, L', up_V HI.out.1 (by have := HI.out; omega), HI.out.1, HJ.out.1, HJ.out.2.1.up HJ.out.2.2.1 (by rw [HJ.out.2.2.2.1]; exact HJ.out.2.2.2.2.1)⟩, by rw [up_W HI.out.1 (by have := HI.out; omega)]; exact ms_N HI.out.1⟩
    · obtain rfl : n = i := by omega
      have l1 : decide ((n : Int) < (n : Int)) = false := by simp
      have HW : Hid (F1 w wr lo ra n rk vs L ∧ Mkd n L) := hid_mk ⟨hF, hM⟩
      clear hgo hF hM him
      go_wp2
      go_loopw [5] (fun c wr => ∃ (i : Nat), c = .int .i64 i ∧ i ≤ n ∧ F1 w wr lo ra n rk vs L) (fun c _ => n - (intOf c).toNat)
      case atStart => exact ⟨0, rfl, Nat.zero_le _, HW.out.1⟩
      case round =>
        obtain ⟨i, rfl, him, hF⟩ := hrel
        by_cases hgo : i < n
        · obtain ⟨l1, l2⟩ := lt_d hgo
          have HI : Hid (i < n ∧ n ≤ 100000) := hid_mk ⟨hgo, hF.2.2.2⟩
          have HFi := hid_mk hF
          clear hF hgo him
          go_wp2
          go_loopw [6] (fun c wr => ∃ (g : Nat), c = .int .i64 g ∧ 1 ≤ g ∧ g ≤ 18 ∧ F1 w wr lo ra n rk vs L) (fun c _ => 18 - (intOf c).toNat)
          case atStart => exact ⟨1, rfl, by omega, by omega, HFi.out⟩
          case round =>
            obtain ⟨g, rfl, hg1, hg2, hF⟩ := hrel
            by_cases hgg : g ≤ 17
            · have p1 := le_d hgg
              obtain ⟨v, l, go, a, c, hv, hli, rfl, rfl, c1, hown⟩ := hF.1.row HI.out.1
              obtain ⟨K, hK⟩ : ∃ K, l.length = K := ⟨_, rfl⟩
              have lmi : (i : Int) < (n : Int) := by have := HI.out.1; omega
              have hTi := hF.1.2.1.2 i _ l hv hli
              have hK1 : K ≤ 100000 := by have := hF.2.2.1 l (List.mem_of_getElem? hli); omega
              have hgo : (Value.slice a l.length c).ownBlock ≠ some go := fun e => hTi.other hF.1.1 (by decide) e rfl
              rw [hK] at hgo
              obtain ⟨G, hG⟩ : ∃ G, grV g = G := ⟨_, rfl⟩
              obtain ⟨hG1, hG2⟩ := gr_b hg1
              rw [hG] at hG1 hG2
              obtain ⟨N, hN⟩ : ∃ N, K + G = N := ⟨_, rfl⟩
              obtain ⟨e, he⟩ : ∃ e, K + G - 1 = e := ⟨_, rfl⟩
              obtain ⟨g4, cap4, w6, hr, ⟨u, cu⟩, fu, x6, hst⟩ := grow_row (w := wr.drew) (m := G) hTi.1 (by rw [hK] at hown; exact own_fx (S := fun _ => False) hown (Fx.of_out (Out.refl 0 0 wr).drew) (fun _ _ q => q)) hK (Nat.le_trans HLO.out hF.2.1.size) hK1 hG1 hG2 22
              have d1 : w6.cell? ⟨go, i, none⟩ = some (.slice a K c) := by
                refine x6.cell (b := go) (o := i) ?_ hgo
                rw [hK] at c1
                exact c1
              rw [hK] at c1
              rw [hN] at hr
              rw [he] at cu fu hst
              have hsub := sub_1 (N := N) (e := e) (by omega) (by omega)
              have lt : (e : Int) < (N : Int) := by omega
              have hF6 := hF.drew.same hv hli (by rw [hK]; exact (hst (.int .u8 254)).1) (by rw [hK]; exact (hst (.int .u8 254)).2)
              have HF6 := hid_mk hF6
              have HR := hid_mk hr
              have HGr := hid_mk (fun V : World => hG ▸ grows_any V g)
              have HG : Hid (1 ≤ g ∧ g ≤ 17) := hid_mk ⟨hg1, hgg⟩
              have HX6 : Hid (w6.cell? ⟨go, i, none⟩ = some (.slice a K c)) := hid_mk d1
              have HCU : Hid (w6.cell? ⟨g4, e, none⟩ = some u ∧ w6.frozen? ⟨g4, e, none⟩ = false) := hid_mk ⟨cu, fu⟩
              have HSU := hid_mk hsub
              clear hF hv hli hown hTi hK1 hgo hG hG1 hG2 hN he hr cu fu x6 hst d1 hsub hF6 hg1 hg2 hgg hK l1 l2
              go_wp2_with fail
              obtain ⟨V3, hV3⟩ : ∃ V3, wr.drew = V3 := ⟨_, rfl⟩
              rw [hV3] at HR
              refine wp_region_held_drew (S := fun w' => w'.cell? ⟨go, i, none⟩ = some (.slice a K c)) (by kernel_rfl) ?hS10 (fun hHeld => ?rest10)
              case hS10 => exact c1
              refine tk 0 ?_
              refine tk 1 ?_
              refine tk 2 ?_
              refine tk 3 ?_
              refine tk 4 ?_
              refine wpAnyH_ready (rs := [5]) (by kernel_rfl) (by simp) ?_
              refine AllReadyH.cons rfl (fun KK hK => ?_) AllReadyH.nil
              simp only [xa, xb, xc]
              go_simp
              refine calls_same (HGr.out _) ?_
              refine hK.out _ _ ?hS16 (fun hHeld2 => ?rest16)
              case hS16 => exact (by rw [← hV3]; exact c1)
              clear hK KK
              (try clear hHeld)
              have hHeld := hHeld2
              clear hHeld2
              (try simp only [Act.put, xa, xb, xc, xd, xe, xf])
              refine wpAnyH_ready (rs := [6]) (by kernel_rfl) (by simp) ?_
              refine AllReadyH.cons rfl (fun KK hK => ?_) AllReadyH.nil
              simp only [xa, xb, xc]
              refine app_sr V3 _ _ _ _ rfl _ _ rfl rfl HR.out ?_
              refine hK.out _ _ ?hS17 (fun hHeld2 => ?rest17)
              case hS17 => exact HX6.out
              clear hK KK
              (try clear hHeld)
              have hHeld := hHeld2
              clear hHeld2
              (try simp only [Act.put, xa, xb, xc, xd, xe, xf])
              refine tk 7 ?_
              refine wpAnyH_done (by kernel_rfl) ?_ _
              obtain ⟨cu, fu⟩ := HCU.out
              have hsub := HSU.out
              clear hHeld hV3 HR HGr c1 HX6
              go_wp2
              exact ⟨⟨g + 1, up_V (K := 18) (by have := HG.out; omega) (by omega), by omega, by have := HG.out; omega, HF6.out⟩, by rw [up_W (K := 18) (by have := HG.out; omega) (by omega)]; exact ms_17 HG.out.2⟩
            · have p1 := gt_d hgg
              have HF2 := hid_mk hF
              clear hF hg1 hg2 hgg
              go_wp2
              exact ⟨⟨i + 1, up_V HI.out.1 (by have := HI.out; omega), HI.out.1, HF2.out⟩, by rw [up_W HI.out.1 (by have := HI.out; omega)]; exact ms_N HI.out.1⟩
        · obtain rfl : n = i := by omega
          have HF3 := hid_mk hF
          clear hgo hF him
          go_wp2
          have HI2 : Hid (n ≤ 100000) := hid_mk HF3.out.2.2.2
          go_loopw [8] (fun c w3 => ∃ (i : Nat), c = .int .i64 i ∧ i ≤ n ∧ F1 w w3 lo ra n rk vs L) (fun c _ => n - (intOf c).toNat)
          case atStart => exact ⟨0, rfl, Nat.zero_le _, HF3.out⟩
          case round =>
            obtain ⟨i, rfl, him, hF⟩ := hrel
            by_cases hgo : i < n
            · obtain ⟨l1, l2⟩ := lt_d hgo
              have HI : Hid (i < n ∧ n ≤ 100000) := hid_mk ⟨hgo, HI2.out⟩
              obtain ⟨v, l, go, a, c, hv, hli, rfl, rfl, c1, hown⟩ := hF.1.row hgo
              obtain ⟨K, hK⟩ : ∃ K, l.length = K := ⟨_, rfl⟩
              have hK1 : K ≤ 100000 := by have := hF.2.2.1 l (List.mem_of_getElem? hli); omega
              have lmi : (i : Int) < (n : Int) := by omega
              have HR : Hid ((∀ x ∈ l, x = mkV i) ∧ l.length = K ∧ K ≤ 100000 ∧ L[i]? = some l ∧ vs[i]? = some (.slice a K c)) := hid_mk ⟨HW.out.2 i l hgo hli, hK, hK1, hli, hK ▸ hv⟩
              have HF4 := hid_mk hF
              clear hF hv hli hown hK1 hK hgo him c1
              go_wp2
              go_loopw [9] (fun c w4 => ∃ (j : Nat), c = .int .i64 j ∧ j ≤ K ∧ F1 w w4 lo (some ⟨go, 0, none⟩) n rk vs L) (fun c _ => K - (intOf c).toNat)
              case atStart => exact ⟨0, rfl, Nat.zero_le _, HF4.out⟩
              case round =>
                obtain ⟨j, rfl, hjm, hF⟩ := hrel
                obtain ⟨v, l2, go2, a2, c2, hv, hli2, e2, e3, c1, hown⟩ := hF.1.row HI.out.1
                cases e2
                rw [HR.out.2.2.2.1] at hli2
                cases hli2
                rw [HR.out.2.2.2.2] at hv
                cases hv
                rw [HR.out.2.1] at e3 c1 hown
                cases e3
                have HF5 := hid_mk hF
                by_cases hgj : j < K
                · obtain ⟨p1, p2⟩ := lt_d hgj
                  obtain ⟨g, cur, rfl, q1, q2, q3, -⟩ := own_cellsX hown (by omega)
                  obtain ⟨y, hy⟩ : ∃ y, l[j]? = some y := ⟨_, List.getElem?_eq_getElem (by have := HR.out.2.1; omega)⟩
                  have hyv : y = mkV i := HR.out.1 y (List.mem_of_getElem? hy)
                  have c2 : wr.cell? ⟨g, j, none⟩ = some (.int .u8 (mkV i)) := q2 j _ (by unfold bvs; rw [List.getElem?_map, hy, hyv]; rfl)
                  have lmj : (j : Int) < (K : Int) := by omega
                  have HJ2 : Hid (j < K) := hid_mk hgj
                  obtain ⟨mk, hmk⟩ : ∃ mk, mkV i = mk := ⟨_, rfl⟩
                  have HMa := hid_mk (fun V : World => hmk ▸ mark_any V i (up_i HI.out.1 HI.out.2))
                  rw [hmk] at c2
                  clear hF hown q1 q2 q3 hy hyv hgj hjm l1 l2 hmk
                  go_wp2_with fail
                  obtain ⟨V3, hV3⟩ : ∃ V3, wr.drew = V3 := ⟨_, rfl⟩
                  refine wp_region_held_drew (S := fun w' => w'.cell? ⟨go, i, none⟩ = some (.slice (some ⟨g, 0, none⟩) K c) ∧ w'.cell? ⟨g, j, none⟩ = some (.int .u8 mk)) (by kernel_rfl) ?hS19 (fun hHeld => ?rest19)
                  case hS19 => exact ⟨c1, c2⟩
                  refine tk 0 ?_
                  refine tk 1 ?_
                  refine tk 2 ?_
                  refine tk 3 ?_
                  refine tk 4 ?_
                  refine tk 5 ?_
                  refine tk 6 ?_
                  refine tk 7 ?_
                  refine wpAnyH_ready (rs := [8]) (by kernel_rfl) (by simp) ?_
                  refine AllReadyH.cons rfl (fun KK hK => ?_) AllReadyH.nil
                  simp only [xa, xb, xc]
                  go_simp
                  refine calls_same (HMa.out _) ?_
                  refine hK.out _ _ ?hS28 (fun hHeld2 => ?rest28)
                  case hS28 => exact (by rw [← hV3]; exact ⟨c1, c2⟩)
                  clear hK KK
                  (try clear hHeld)
                  have hHeld := hHeld2
                  clear hHeld2
                  (try simp only [Act.put, xa, xb, xc, xd, xe, xf])
                  refine tk 9 ?_
                  refine wpAnyH_done (by kernel_rfl) ?_ _
                  have HF6 : Hid (F1 w V3 lo (some ⟨go, 0, none⟩) n rk vs L) := hid_mk (by rw [← hV3]; exact HF5.out.drew)
                  clear hHeld hV3 HMa c1 c2
                  go_wp2
                  exact ⟨⟨j + 1, up_V HJ2.out (by have := HR.out.2.2.1; omega), HJ2.out, HF6.out⟩, by rw [up_W HJ2.out (by have := HR.out.2.2.1; omega)]; exact ms_N HJ2.out⟩
                · obtain rfl : K = j := by omega
                  have p1 : decide ((K : Int) < (K : Int)) = false := by simp
                  clear hF hown hgj hjm l1 l2
                  go_wp2
                  exact ⟨⟨i + 1, up_V HI.out.1 (by have := HI.out; omega), HI.out.1, HF5.out⟩, by rw [up_W HI.out.1 (by have := HI.out; omega)]; exact ms_N HI.out.1⟩
            · obtain rfl : n = i := by omega
              have HF6 := hid_mk hF
              clear hgo hF him
              go_wp2
              go_ret
              exact ⟨rfl, HF6.out.2.1⟩
end Go.Proofs.YtapjfokkcgdhhaaDoor
