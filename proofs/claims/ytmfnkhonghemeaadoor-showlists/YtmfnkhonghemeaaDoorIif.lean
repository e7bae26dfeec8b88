/- package show: a reference that was met before -/
import Derived.Test.YtmfnkhonghemeaaDoorIie
namespace Go.Proofs.YtmfnkhonghemeaaDoor
open Go.RowKit
set_option linter.unusedVariables false
set_option linter.unusedSimpArgs false

set_option maxRecDepth 100000 in
set_option maxHeartbeats 4000000 in
theorem meet_again {W : World} {p mb g cap K j : Nat} {T : TypeId} {d : Value} {x n tm : Int} {f0 : Int → Option Value} {cur : Array Value} (hj : (j : Int) < K) (hK : (K : Int) ≤ 1000) (ht0 : 0 ≤ tm) (ht1 : tm ≤ 100000) (hn : n < 500) (h0 : 0 ≤ n) (hx : validB_v 2 x = true)
    (h : WK W p (.iface T d) (.map (some mb)) (.slice (some ⟨g, 0, none⟩) K cap) n) (hm : MpAt W mb f0) (hf : f0 x = some (.int .i64 j)) (hpm : p = mb + 1) (hr : Bl W g cur 68) (hgp : g ≠ p) (hgm : g ≠ mb) (hc3 : cur[j * 7 + 3]? = some (.int .i64 0)) (hc4 : cur[j * 7 + 4]? = some (.int .i64 tm)) :
    Calls Tryd.prog 16 #[.pointer (some ⟨p, 0, none⟩), .agg #[.int .i64 2, .int .i64 x]] W fun e w' => e = .returned (.tuple #[.slice none 0 0, .agg #[.int .i64 0, .int .i64 0]]) ∧ WK w' p (.iface T d) (.map (some mb)) (.slice (some ⟨g, 0, none⟩) K cap) (n + 1) ∧ Bl w' g (cur.setIfInBounds (j * 7 + 4) (.int .i64 (tm + 1))) 68 ∧ MpAt w' mb f0 ∧ Fx (fun b => b = p ∨ b = g) W w' := by
  have hl := h.lt
  have hml := hm.lt
  have hwr := wrap_small (n := n + 1) (by omega) (by omega)
  have hd : decide (500 < n + 1) = false := by simp; omega
  have b1 : WK ((W.alloc (.cells #[.int .i64 2, .int .i64 x] 28)).alloc (.cells #[.int .i64 0, .int .i64 0] 38)) p (.iface T d) (.map (some mb)) (.slice (some ⟨g, 0, none⟩) K cap) n := Bl.alloc (Bl.alloc h _) _
  have c3 := b1.cell (i := 3) rfl
  have z3 := b1.frozen 3
  have b0 : WK (W.setCell ⟨p, 3, none⟩ (.int .i64 (n + 1))) p (.iface T d) (.map (some mb)) (.slice (some ⟨g, 0, none⟩) K cap) (n + 1) := Bl.set h 3 _
  have b2 : WK (((W.setCell ⟨p, 3, none⟩ (.int .i64 (n + 1))).alloc (.cells #[.int .i64 2, .int .i64 x] 28)).alloc (.cells #[.int .i64 0, .int .i64 0] 38)) p (.iface T d) (.map (some mb)) (.slice (some ⟨g, 0, none⟩) K cap) (n + 1) := Bl.alloc (Bl.alloc b0 _) _
  have v2 : Bl (((W.setCell ⟨p, 3, none⟩ (.int .i64 (n + 1))).alloc (.cells #[.int .i64 2, .int .i64 x] 28)).alloc (.cells #[.int .i64 0, .int .i64 0] 38)) W.heap.size #[.int .i64 2, .int .i64 x] 28 := Bl.alloc (size_set W _ _ ▸ Bl.new _ _ _) _
  have f2 : Bl (((W.setCell ⟨p, 3, none⟩ (.int .i64 (n + 1))).alloc (.cells #[.int .i64 2, .int .i64 x] 28)).alloc (.cells #[.int .i64 0, .int .i64 0] 38)) (W.heap.size + 1) #[.int .i64 0, .int .i64 0] 38 := size_set W ⟨p, 3, none⟩ (.int .i64 (n + 1)) ▸ size_alloc (W.setCell ⟨p, 3, none⟩ (.int .i64 (n + 1))) _ ▸ Bl.new _ _ _
  have o2 : Out p (p + 1) W (((W.setCell ⟨p, 3, none⟩ (.int .i64 (n + 1))).alloc (.cells #[.int .i64 2, .int .i64 x] 28)).alloc (.cells #[.int .i64 0, .int .i64 0] 38)) := (((Out.refl _ _ _).setCell (.inl ⟨Nat.le_refl _, Nat.lt_succ_self _⟩) _).alloc _).alloc _
  have x0 := v2.cell (i := 0) rfl
  have x1 := v2.cell (i := 1) rfl
  have HC := hid_mk (And.intro hc3 hc4)
  have HRw := hid_mk hr
  have HGP := hid_mk (And.intro hgp hgm)
  have hgl := hr.lt
  clear hc3 hc4 hr hgp hgm
  have HM := hid_mk hm
  have HF := hid_mk hf
  have HPM := hid_mk hpm
  have HK := hid_mk (And.intro b2 (And.intro v2 (And.intro f2 o2)))
  clear hm hf hpm b0 b1 v2 f2 o2 h
  go_enter Tryd.func16, Tryd.ntmps16
  go_wp2_with (first
    | (go_at_call 13; refine calls_same (tooLarge_at b2 hd) ?_)
    | (go_at_call 24; refine (valid_at _ _ _ hx).mono ?_; rintro e w2 ⟨rfl, hb⟩; have v3 := HK.out.2.1.kept hb (.inr (Nat.zero_le _)); have u0 := v3.cell (i := 0) rfl; have u1 := v3.cell (i := 1) rfl; have m3 := HK.out.1.kept hb (.inr (Nat.zero_le _)); have u2 := m3.cell (i := 1) rfl))
  have lk := mp_look (w := w2.drew) true Tryd.underlying43 Tryd.underlying3 (zero_int _) (show MpAt w2.drew mb f0 from (HM.out.kept (HK.out.2.2.2) (.inl (by have := HPM.out; omega))).kept hb (.inr (Nat.zero_le _))) x
  rw [HF.out] at lk
  simp only [Option.getD_some, Option.isSome_some, if_true] at lk
  go_region
  have o3 : Out p (p + 1) W w2.drew := (HK.out.2.2.2.trans (hb.any _ _)).drew
  have hb' : Out 0 0 _ w2.drew := hb.drew
  have k3 := HK.out.1.kept hb' (.inr (Nat.zero_le _))
  have V3 := HK.out.2.1.kept hb' (.inr (Nat.zero_le _))
  have F3 := HK.out.2.2.1.kept hb' (.inr (Nat.zero_le _))
  have M3 : MpAt w2.drew mb f0 := HM.out.kept o3 (.inl (by have := HPM.out; omega))
  have w0 := V3.cell (i := 0) rfl
  have w1 := V3.cell (i := 1) rfl
  obtain ⟨W3, hW3⟩ : ∃ X, w2.drew = X := ⟨_, rfl⟩
  rw [hW3] at o3 k3 V3 F3 M3 w0 w1 ⊢
  have R3 := HRw.out.kept o3 (by have := HGP.out; omega)
  have HTh := hid_mk (thing_any k3 M3 HF.out hj hK)
  have HE := hid_mk (And.intro k3 (And.intro F3 (And.intro M3 (And.intro R3 o3))))
  have hs3 : W.heap.size ≤ W3.heap.size := o3.size
  clear o3 k3 V3 F3 M3 R3 lk m3 u0 u1 u2 hb hb' hW3 v3 x0 x1 c3 z3 b2
  go_wp2_with (go_at_call 26; refine HTh.out.mono ?_; rintro e w5 ⟨rfl, o5⟩; have R5 := HE.out.2.2.2.1.kept o5 (.inr (Nat.zero_le _)); have y4 := R5.cell HC.out.2; have z4 := R5.frozen (j * 7 + 4))
  refine wp_named (fun W6 hW6 => ?_)
  have q6 : Out g (g + 1) w5 W6 := by rw [hW6]; exact (Out.refl _ _ _).setCell (.inl ⟨Nat.le_refl _, Nat.lt_succ_self _⟩) _
  have R6 : Bl W6 g (cur.setIfInBounds (j * 7 + 4) (.int .i64 (tm + 1))) 68 := by rw [hW6]; exact R5.set _ _
  obtain ⟨hgp, hgm⟩ := HGP.out
  have hpm := HPM.out
  have K6 := (HE.out.1.kept o5 (.inr (Nat.zero_le _))).kept q6 (by omega)
  have F6 := (HE.out.2.1.kept o5 (.inr (Nat.zero_le _))).kept q6 (by omega)
  have M6 := (HE.out.2.2.1.kept o5 (.inr (Nat.zero_le _))).kept q6 (by omega)
  have X6 : Fx (fun b => b = p ∨ b = g) W W6 := ((Fx.of_out HE.out.2.2.2.2 (fun b h1 h2 _ => by omega)).trans (Fx.of_out o5 (fun b h1 h2 _ => by omega))).trans (Fx.of_out q6 (fun b h1 h2 _ => by omega))
  have p3 := K6.cell (i := 3) rfl
  have t3 : W6.cell? ⟨g, j * 7 + 3, none⟩ = some (.int .i64 0) := R6.cell (by rw [Array.getElem?_setIfInBounds_ne (by omega)]; exact HC.out.1)
  have HK6 := hid_mk (And.intro K6 (And.intro F6 (And.intro M6 (And.intro R6 X6))))
  clear hW6 q6 R6 R5 y4 z4 K6 F6 M6 X6 o5 hpm hgp hgm
  refine wp_region_T (S := fun w' => w'.cell? ⟨p, 3, none⟩ = some (.int .i64 (n + 1)) ∧ w'.cell? ⟨g, j * 7 + 3, none⟩ = some (.int .i64 0)) (z := 11) (by kernel_rfl) ?hS1 (fun hHeld => ?rest1)
  case hS1 => exact ⟨p3, t3⟩
  obtain ⟨Z13, hZ⟩ : ∃ Z, W6.drew = Z := ⟨_, rfl⟩
  have oo : Out 0 0 W6 Z13 := by rw [← hZ]; exact (Out.refl 0 0 _).drew
  rw [hZ] at hHeld ⊢
  clear hZ
  refine tkT 0 ?_
  refine tkT 1 ?_
  refine tkT 2 ?_
  refine tkT 3 ?_
  refine tkT 4 ?_
  refine tkT 5 ?_
  refine tkT 6 ?_
  refine tkT 7 ?_
  refine tkT 8 ?_
  refine wpAnyT_one (i := 9) (by kernel_rfl) rfl (fun KK hK => ?_)
  simp only [xa, xb, xc]
  go_simp
  refine hK.out _ _ ?hS11 (fun hHeld2 => ?rest11)
  case hS11 => exact hHeld
  clear hK KK
  (try clear hHeld)
  have hHeld := hHeld2
  clear hHeld2
  (try simp only [Act.put, xa, xb, xc, xd, xe, xf])
  refine tkT 10 ?_
  refine wpAnyT_last (by kernel_rfl) rfl (fun KK hK => ?_)
  simp only [xa, xb, xc]
  have kp := HK6.out.1.kept oo (.inr (Nat.zero_le _))
  have y0 := kp.cell (i := 3) rfl
  have z0 := kp.frozen 3
  go_simp
  clear y0 z0
  (try rw [wrap_small (n := n + 1) (by omega) (by omega)])
  obtain ⟨Z13_11, hY⟩ : ∃ V, Z13.setCell ⟨p, 3, none⟩ (.int .i64 (n + 1)) = V := ⟨_, rfl⟩
  have qS : Out p (p + 1) Z13 Z13_11 := by rw [← hY]; exact (Out.refl _ _ _).setCell (p := ⟨p, 3, none⟩) (.inl ⟨Nat.le_refl _, Nat.lt_succ_self _⟩) _
  have kp2 : WK Z13_11 p (.iface T d) (.map (some mb)) (.slice (some ⟨g, 0, none⟩) K cap) (n + 1) := by rw [← hY]; exact kp.set 3 _
  rw [hY]
  clear hY
  refine hK.out _ _ ?_
  clear hK KK
  (try simp only [Act.put, xa, xb, xc, xd, xe, xf])
  refine wpAnyT_done (by kernel_rfl) ?_ _
  obtain ⟨hgp, hgm⟩ := HGP.out
  have hpm := HPM.out
  have F7 := (HK6.out.2.1.kept oo (.inr (Nat.zero_le _))).kept qS (.inr (by omega))
  have M7 := (HK6.out.2.2.1.kept oo (.inr (Nat.zero_le _))).kept qS (.inl (by omega))
  have R7 := (HK6.out.2.2.2.1.kept oo (.inr (Nat.zero_le _))).kept qS (by omega)
  have X7 : Fx (fun b => b = p ∨ b = g) W Z13_11 := (HK6.out.2.2.2.2.trans (Fx.of_out oo (fun b h1 h2 _ => by omega))).trans (Fx.of_out qS (fun b h1 h2 _ => by omega))
  have d0 := F7.cell (i := 0) rfl
  have d1 := F7.cell (i := 1) rfl
  have d2 := F7.frozen 0
  have d3 := F7.frozen 1
  have HE7 := hid_mk (And.intro kp2 (And.intro F7 (And.intro M7 (And.intro R7 X7))))
  clear F7 M7 R7 X7 kp kp2 qS oo p3 t3 hHeld hpm hgp hgm
  go_wp2_with fail
  obtain ⟨e1, e2, e3, e4, e5⟩ := HE7.out
  have hpm := HPM.out
  have oF : Out (W.heap.size + 1) (W.heap.size + 2) Z13_11 ((Z13_11.setCell ⟨W.heap.size + 1, 0, none⟩ (.int .i64 0)).setCell ⟨W.heap.size + 1, 1, none⟩ (.int .i64 0)) := ((Out.refl _ _ _).setCell (p := ⟨W.heap.size + 1, 0, none⟩) (.inl ⟨Nat.le_refl _, Nat.lt_succ_self _⟩) _).setCell (p := ⟨W.heap.size + 1, 1, none⟩) (.inl ⟨Nat.le_refl _, Nat.lt_succ_self _⟩) _
  have fF := Fx.of_out (S := fun b => b = W.heap.size + 1) oF (fun b h1 h2 _ => by omega)
  exact retTF Tryd.results16 rfl rfl rfl ((e2.set 0 _).set 1 _) ⟨rfl, e1.kept oF (.inl (by omega)), e4.kept oF (.inl (by omega)), e3.kept oF (.inl (by omega)), e5.past fF (fun b h1 h2 => by omega)⟩
end Go.Proofs.YtmfnkhonghemeaaDoor
