/- package show: a leaf that is met, labelled, told -/
import Derived.Test.YtmfnkhonghemeaaDoorIq
namespace Go.Proofs.YtmfnkhonghemeaaDoor
open Go.RowKit
set_option linter.unusedVariables false
set_option linter.unusedSimpArgs false

set_option maxRecDepth 100000 in
set_option maxHeartbeats 4000000 in
theorem meet_first {W : World} {p mb : Nat} {T : TypeId} {d : Value} {x i k n : Int} {s : ByteArray} {f0 : Int → Option Value} {a1 a2 a3 : Option Addr} {l1 l2 l3 c1 c2 c3 : Nat} (hk : opaque_ k = some s) (hn : n < 500) (h0 : 0 ≤ n) (hx : validB_v 2 x = true)
    (h : WK W p (.iface T d) (.map (some mb)) (.slice none 0 0) n) (hm : MpAt W mb f0) (hf : f0 x = none) (hpm : p = mb + 1)
    (hA : ∀ W1, Out p (p + 1) W W1 → Calls Tryd.prog 36 #[.iface T d, .agg #[.int .i64 2, .int .i64 x]] W1 fun e' w' => e' = .returned (.tuple #[.agg #[.int .i64 i, .int .i64 k, .slice a1 l1 c1, .slice a2 l2 c2, .slice a3 l3 c3], .agg #[.int .i64 0, .int .i64 0]]) ∧ Out 0 0 W1 w') :
    Calls Tryd.prog 16 #[.pointer (some ⟨p, 0, none⟩), .agg #[.int .i64 2, .int .i64 x]] W fun e w' => (∃ a c, e = .returned (.tuple #[.slice a 0 c, .agg #[.int .i64 0, .int .i64 0]])) ∧
      ∃ (ah : Option Addr) (ch g cap : Nat) (cur : Array Value), W.heap.size ≤ g ∧ WK w' p (.iface T d) (.map (some mb)) (.slice (some ⟨g, 0, none⟩) 1 cap) (n + 1) ∧ Bl w' g cur 68 ∧ (∀ (j : Nat) (u : Value), (thC k ah ch s)[j]? = some u → cur[j]? = some u) ∧ MpAt w' mb (fun y => if y = x then some (.int .i64 0) else f0 y) ∧ Out mb (mb + 2) W w' := by
  have hl := h.lt
  have hml := hm.lt
  have hwr := wrap_small (n := n + 1) (by omega) (by omega)
  have hd : decide (500 < n + 1) = false := by simp; omega
  have b1 : WK ((W.alloc (.cells #[.int .i64 2, .int .i64 x] 28)).alloc (.cells #[.int .i64 0, .int .i64 0] 38)) p (.iface T d) (.map (some mb)) (.slice none 0 0) n := Bl.alloc (Bl.alloc h _) _
  have c3 := b1.cell (i := 3) rfl
  have z3 := b1.frozen 3
  have b0 : WK (W.setCell ⟨p, 3, none⟩ (.int .i64 (n + 1))) p (.iface T d) (.map (some mb)) (.slice none 0 0) (n + 1) := Bl.set h 3 _
  have b2 : WK (((W.setCell ⟨p, 3, none⟩ (.int .i64 (n + 1))).alloc (.cells #[.int .i64 2, .int .i64 x] 28)).alloc (.cells #[.int .i64 0, .int .i64 0] 38)) p (.iface T d) (.map (some mb)) (.slice none 0 0) (n + 1) := Bl.alloc (Bl.alloc b0 _) _
  have v2 : Bl (((W.setCell ⟨p, 3, none⟩ (.int .i64 (n + 1))).alloc (.cells #[.int .i64 2, .int .i64 x] 28)).alloc (.cells #[.int .i64 0, .int .i64 0] 38)) W.heap.size #[.int .i64 2, .int .i64 x] 28 := Bl.alloc (size_set W _ _ ▸ Bl.new _ _ _) _
  have f2 : Bl (((W.setCell ⟨p, 3, none⟩ (.int .i64 (n + 1))).alloc (.cells #[.int .i64 2, .int .i64 x] 28)).alloc (.cells #[.int .i64 0, .int .i64 0] 38)) (W.heap.size + 1) #[.int .i64 0, .int .i64 0] 38 := size_set W ⟨p, 3, none⟩ (.int .i64 (n + 1)) ▸ size_alloc (W.setCell ⟨p, 3, none⟩ (.int .i64 (n + 1))) _ ▸ Bl.new _ _ _
  have o2 : Out p (p + 1) W (((W.setCell ⟨p, 3, none⟩ (.int .i64 (n + 1))).alloc (.cells #[.int .i64 2, .int .i64 x] 28)).alloc (.cells #[.int .i64 0, .int .i64 0] 38)) := (((Out.refl _ _ _).setCell (.inl ⟨Nat.le_refl _, Nat.lt_succ_self _⟩) _).alloc _).alloc _
  have x0 := v2.cell (i := 0) rfl
  have x1 := v2.cell (i := 1) rfl
  have HA := hid_mk hA
  have HM := hid_mk hm
  have HF := hid_mk hf
  have HPM := hid_mk hpm
  have HK := hid_mk (And.intro b2 (And.intro v2 (And.intro f2 o2)))
  clear hA hm hf hpm b0 b1 v2 f2 o2 h
  go_enter Tryd.func16, Tryd.ntmps16
  go_wp2_with (first
    | (go_at_call 13; refine calls_same (tooLarge_at b2 hd) ?_)
    | (go_at_call 24; refine (valid_at _ _ _ hx).mono ?_; rintro e w2 ⟨rfl, hb⟩; have v3 := HK.out.2.1.kept hb (.inr (Nat.zero_le _)); have u0 := v3.cell (i := 0) rfl; have u1 := v3.cell (i := 1) rfl; have m3 := HK.out.1.kept hb (.inr (Nat.zero_le _)); have u2 := m3.cell (i := 1) rfl))
  have lk := mp_look (w := w2.drew) true Tryd.underlying43 Tryd.underlying3 (zero_int _) (show MpAt w2.drew mb f0 from (HM.out.kept (HK.out.2.2.2) (.inl (by have := HPM.out; omega))).kept hb (.inr (Nat.zero_le _))) x
  rw [HF.out] at lk
  simp only [Option.getD_none, Option.isSome_none, if_true] at lk
  go_region
  have o3 : Out p (p + 1) W w2.drew := (HK.out.2.2.2.trans (hb.any _ _)).drew
  have hb' : Out 0 0 _ w2.drew := hb.drew
  have k3 := HK.out.1.kept hb' (.inr (Nat.zero_le _))
  have V3 := HK.out.2.1.kept hb' (.inr (Nat.zero_le _))
  have F3 := HK.out.2.2.1.kept hb' (.inr (Nat.zero_le _))
  have M3 : MpAt w2.drew mb f0 := HM.out.kept o3 (.inl (by have := HPM.out; omega))
  have w0 := V3.cell (i := 0) rfl
  have w1 := V3.cell (i := 1) rfl
  obtain ⟨W3, hW3⟩ : ∃ X, w2.drew = X := ⟨_, rfl⟩
  rw [hW3] at o3 k3 V3 F3 M3 w0 w1 ⊢
  have hF1 := fun W1 (o : Out 0 0 W3 W1) => HA.out W1 (o3.trans (o.any _ _))
  have HFL := hid_mk (first_leaf (n := n + 1) hk (by omega) k3 M3 HPM.out hF1)
  have HE := hid_mk (And.intro F3 o3)
  have hs3 : W.heap.size ≤ W3.heap.size := o3.size
  clear hF1 o3 k3 V3 F3 M3 lk m3 u0 u1 u2 hb hb' hW3 v3 x0 x1 c3 z3 b2
  go_wp2_with (go_at_call 25; refine HFL.out.mono ?_; rintro e w5 ⟨⟨ar, cr, rfl⟩, ah, ch, g, cap, cur, hg, r1, r2, r3, r4, r5⟩; have F5 := HE.out.1.kept r5 (.inr (by have := HPM.out; omega)); have y0 := F5.cell (i := 0) rfl; have y1 := F5.cell (i := 1) rfl; have y2 := F5.frozen 0; have y3 := F5.frozen 1; have HR := hid_mk (And.intro r1 (And.intro r2 (And.intro r3 (And.intro r4 (And.intro r5 F5))))); clear r1 r2 r3 r4 r5 F5)
  obtain ⟨r1, r2, r3, r4, r5, F5⟩ := HR.out
  have hpm := HPM.out
  have oF : Out (W.heap.size + 1) (W.heap.size + 2) w5 ((w5.setCell ⟨W.heap.size + 1, 0, none⟩ (.int .i64 0)).setCell ⟨W.heap.size + 1, 1, none⟩ (.int .i64 0)) := ((Out.refl _ _ _).setCell (p := ⟨W.heap.size + 1, 0, none⟩) (.inl ⟨Nat.le_refl _, Nat.lt_succ_self _⟩) _).setCell (p := ⟨W.heap.size + 1, 1, none⟩) (.inl ⟨Nat.le_refl _, Nat.lt_succ_self _⟩) _
  have hsF := HE.out.1.lt
  refine retTF Tryd.results16 rfl rfl rfl ((F5.set 0 _).set 1 _) ⟨⟨ar, cr, rfl⟩, ah, ch, g, cap, cur, by omega, r1.kept oF (.inl (by omega)), r2.kept oF (.inr (by omega)), r3, r4.kept oF (.inl (by omega)), ?_⟩
  exact ((HE.out.2.wide (by omega) (by omega)).trans r5).past oF (by omega)
end Go.Proofs.YtmfnkhonghemeaaDoor
