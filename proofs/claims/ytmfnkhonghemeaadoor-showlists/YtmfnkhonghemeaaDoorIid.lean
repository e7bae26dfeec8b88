/- package show: a container that is met -/
import Derived.Test.YtmfnkhonghemeaaDoorIic
import Derived.Test.YtmfnkhonghemeaaDoorIv
namespace Go.Proofs.YtmfnkhonghemeaaDoor
open Go.RowKit
set_option linter.unusedVariables false
set_option linter.unusedSimpArgs false

set_option maxRecDepth 100000 in
set_option maxHeartbeats 4000000 in
theorem meet_cont {W : World} {p mb base K cap m : Nat} {ta : Option Addr} {xs : List Value} {vs : Array Value} {T : TypeId} {d : Value} {x i k n : Int} {f0 : Int → Option Value} {a1 a2 a3 : Option Addr} {l1 l2 l3 c1 c2 c3 : Nat} (hk : k = 1 ∨ k = 2) (hKn : K ≤ 1000) (hn : n < 500) (h0 : 0 ≤ n) (hx : validB_v 2 x = true)
    (h : WK W p (.iface T d) (.map (some mb)) (.slice ta K cap) n) (hm : MpAt W mb f0) (hf : f0 x = none) (hpm : p = mb + 1) (hbase : mb + 2 ≤ base ∧ base ≤ W.heap.size) (hown : W.ownsRow base 68 7 (.slice ta K cap) K xs)
    (hHd : ∀ W1, Out p (p + 1) W W1 → Calls Tryd.prog 37 #[.agg #[.int .i64 i, .int .i64 k, .slice a1 l1 c1, .slice a2 l2 c2, .slice a3 l3 c3]] W1 fun e w' => (∃ g, e = .returned (.slice (some ⟨g, 0, none⟩) m m) ∧ W1.heap.size ≤ g ∧ Bl w' g vs 28) ∧ Out 0 0 W1 w')
    (hA : ∀ W1, Out p (p + 1) W W1 → Calls Tryd.prog 36 #[.iface T d, .agg #[.int .i64 2, .int .i64 x]] W1 fun e' w' => e' = .returned (.tuple #[.agg #[.int .i64 i, .int .i64 k, .slice a1 l1 c1, .slice a2 l2 c2, .slice a3 l3 c3], .agg #[.int .i64 0, .int .i64 0]]) ∧ Out 0 0 W1 w') :
    Calls Tryd.prog 16 #[.pointer (some ⟨p, 0, none⟩), .agg #[.int .i64 2, .int .i64 x]] W fun e w' => ∃ gv : Nat, e = .returned (.tuple #[.slice (some ⟨gv, 0, none⟩) m m, .agg #[.int .i64 0, .int .i64 0]]) ∧ W.heap.size ≤ gv ∧ Bl w' gv vs 28 ∧ ∃ g cap' : Nat,
      WK w' p (.iface T d) (.map (some mb)) (.slice (some ⟨g, 0, none⟩) (K + 1) cap') (n + 1) ∧ w'.ownsRow base 68 7 (.slice (some ⟨g, 0, none⟩) (K + 1) cap') (K + 1) (xs ++ #[.int .i64 k, .slice (some ⟨gv, 0, none⟩) m m, .string ⟨#[]⟩, .int .i64 0, .int .i64 1, .int .i64 0, .bool false].toList) ∧ (W.heap.size ≤ g ∨ (Value.slice ta K cap).ownBlock = some g) ∧ gv ≠ g ∧ MpAt w' mb (fun y => if y = x then some (.int .i64 K) else f0 y) ∧ Fx (fun b => b = mb ∨ b = p ∨ (Value.slice ta K cap).ownBlock = some b) W w' := by
  have hl := h.lt
  have hml := hm.lt
  have hwr := wrap_small (n := n + 1) (by omega) (by omega)
  have hd : decide (500 < n + 1) = false := by simp; omega
  have b1 : WK ((W.alloc (.cells #[.int .i64 2, .int .i64 x] 28)).alloc (.cells #[.int .i64 0, .int .i64 0] 38)) p (.iface T d) (.map (some mb)) (.slice ta K cap) n := Bl.alloc (Bl.alloc h _) _
  have c3 := b1.cell (i := 3) rfl
  have z3 := b1.frozen 3
  have b0 : WK (W.setCell ⟨p, 3, none⟩ (.int .i64 (n + 1))) p (.iface T d) (.map (some mb)) (.slice ta K cap) (n + 1) := Bl.set h 3 _
  have b2 : WK (((W.setCell ⟨p, 3, none⟩ (.int .i64 (n + 1))).alloc (.cells #[.int .i64 2, .int .i64 x] 28)).alloc (.cells #[.int .i64 0, .int .i64 0] 38)) p (.iface T d) (.map (some mb)) (.slice ta K cap) (n + 1) := Bl.alloc (Bl.alloc b0 _) _
  have v2 : Bl (((W.setCell ⟨p, 3, none⟩ (.int .i64 (n + 1))).alloc (.cells #[.int .i64 2, .int .i64 x] 28)).alloc (.cells #[.int .i64 0, .int .i64 0] 38)) W.heap.size #[.int .i64 2, .int .i64 x] 28 := Bl.alloc (size_set W _ _ ▸ Bl.new _ _ _) _
  have f2 : Bl (((W.setCell ⟨p, 3, none⟩ (.int .i64 (n + 1))).alloc (.cells #[.int .i64 2, .int .i64 x] 28)).alloc (.cells #[.int .i64 0, .int .i64 0] 38)) (W.heap.size + 1) #[.int .i64 0, .int .i64 0] 38 := size_set W ⟨p, 3, none⟩ (.int .i64 (n + 1)) ▸ size_alloc (W.setCell ⟨p, 3, none⟩ (.int .i64 (n + 1))) _ ▸ Bl.new _ _ _
  have o2 : Out p (p + 1) W (((W.setCell ⟨p, 3, none⟩ (.int .i64 (n + 1))).alloc (.cells #[.int .i64 2, .int .i64 x] 28)).alloc (.cells #[.int .i64 0, .int .i64 0] 38)) := (((Out.refl _ _ _).setCell (.inl ⟨Nat.le_refl _, Nat.lt_succ_self _⟩) _).alloc _).alloc _
  have x0 := v2.cell (i := 0) rfl
  have x1 := v2.cell (i := 1) rfl
  have HA := hid_mk hA
  have HHd := hid_mk hHd
  have HOwn := hid_mk hown
  have HBs := hid_mk hbase
  clear hHd hown hbase
  have HM := hid_mk hm
  have HF := hid_mk hf
  have HPM := hid_mk hpm
  have HK := hid_mk (And.intro b2 (And.intro v2 (And.intro f2 o2)))
  clear hA hm hf hpm b0 b1 v2 f2 o2 h
  go_enter Tryd.func16, Tryd.ntmps16
  go_wp2_with (first
    | (go_at_call 13; refine calls_same (tooLarge_at b2 hd) ?_)
    | (go_at_call 24; refine (valid_at _ _ _ hx).mono ?_; rintro e w2 ⟨rfl, hb⟩; have v3 := HK.out.2.1.kept hb (.inr (Nat.zero_le _)); have u0 := v3.cell (i := 0) rfl; have u1 := v3.cell (i := 1) rfl; have m3 := HK.out.1.kept hb (.inr (Nat.zero_le _)); have u2 := m3.cell (i := 1) rfl))
  have lk := mp_look (w := w2.drew) true Tryd.underlying43 Tryd.underlying3 (zero_int _) (show MpAt w2.drew mb f0 from (HM.out.kept (HK.out.2.2.2) (.inl (by have := HPM.out; omega))).kept hb (.inr (Nat.zero_le _))) x
  rw [HF.out] at lk
  simp only [Option.getD_none, Option.isSome_none, if_true] at lk
  go_region
  have o3 : Out p (p + 1) W w2.drew := (HK.out.2.2.2.trans (hb.any _ _)).drew
  have hb' : Out 0 0 _ w2.drew := hb.drew
  have k3 := HK.out.1.kept hb' (.inr (Nat.zero_le _))
  have V3 := HK.out.2.1.kept hb' (.inr (Nat.zero_le _))
  have F3 := HK.out.2.2.1.kept hb' (.inr (Nat.zero_le _))
  have M3 : MpAt w2.drew mb f0 := HM.out.kept o3 (.inl (by have := HPM.out; omega))
  have w0 := V3.cell (i := 0) rfl
  have w1 := V3.cell (i := 1) rfl
  obtain ⟨W3, hW3⟩ : ∃ X, w2.drew = X := ⟨_, rfl⟩
  rw [hW3] at o3 k3 V3 F3 M3 w0 w1 ⊢
  have hF1 := fun W1 (o : Out 0 0 W3 W1) => HA.out W1 (o3.trans (o.any _ _))
  have HFL := hid_mk (first_cont (n := n + 1) hk (by omega) hKn k3 M3 HPM.out ⟨HBs.out.1, Nat.le_trans HBs.out.2 o3.size⟩ (own_kept0' HOwn.out o3 (by have := HPM.out; have := HBs.out; omega)) (fun W1 o => HHd.out W1 (o3.trans (o.any _ _))) hF1)
  have HOl : Hid (∀ b, (Value.slice ta K cap).ownBlock = some b → b < W.heap.size) := fun b e => (HOwn.out.lt b e).2
  have HE := hid_mk (And.intro F3 o3)
  have hs3 : W.heap.size ≤ W3.heap.size := o3.size
  clear hF1 o3 k3 V3 F3 M3 lk m3 u0 u1 u2 hb hb' hW3 v3 x0 x1 c3 z3 b2
  go_wp2_with (go_at_call 25; refine HFL.out.mono ?_; rintro e w5 ⟨gv, rfl, hgv, kx, g, cap', r1, r5, rg, rne, r4, rF⟩; have F5 := Bl.fx HE.out.1 rF (fun hh => hh.elim (fun e => by have := HPM.out; omega) (fun h2 => h2.elim (fun e => by omega) (fun e => by have := HOl.out _ e; omega))); have y0 := F5.cell (i := 0) rfl; have y1 := F5.cell (i := 1) rfl; have y2 := F5.frozen 0; have y3 := F5.frozen 1; have HR := hid_mk (And.intro r1 (And.intro r5 (And.intro rg (And.intro rne (And.intro r4 (And.intro rF (And.intro F5 (And.intro kx hgv)))))))); clear r1 r5 rg rne r4 rF F5 kx hgv)
  obtain ⟨r1, r5, rg, rne, r4, rF, F5, kx, hgv⟩ := HR.out
  have hol := HOl.out
  have hpm := HPM.out
  have oF : Out (W.heap.size + 1) (W.heap.size + 2) w5 ((w5.setCell ⟨W.heap.size + 1, 0, none⟩ (.int .i64 0)).setCell ⟨W.heap.size + 1, 1, none⟩ (.int .i64 0)) := ((Out.refl _ _ _).setCell (p := ⟨W.heap.size + 1, 0, none⟩) (.inl ⟨Nat.le_refl _, Nat.lt_succ_self _⟩) _).setCell (p := ⟨W.heap.size + 1, 1, none⟩) (.inl ⟨Nat.le_refl _, Nat.lt_succ_self _⟩) _
  have hsF := HE.out.1.lt
  have fF := Fx.of_out (S := fun b => b = W.heap.size + 1) oF (fun b h1 h2 _ => by omega)
  have hgF : g ≠ W.heap.size + 1 := by
    rcases rg with h | h
    · omega
    · have := hol _ h; omega
  have fA : Fx (fun b => b = mb ∨ b = p ∨ (Value.slice ta K cap).ownBlock = some b) W W3 := Fx.of_out HE.out.2 (fun b h1 h2 _ => by omega)
  exact retTF Tryd.results16 rfl rfl rfl ((F5.set 0 _).set 1 _) ⟨gv, rfl, by omega, kx.kept oF (.inr (by omega)), g, cap', r1.kept oF (.inl (by omega)), own_fx r5 fF (fun b hb e => hgF (Option.some.inj (hb.trans (congrArg some e)))), rg.imp (fun h => by omega) id, rne, r4.kept oF (.inl (by omega)), (fA.trans rF).past fF (fun b h1 h2 => by omega)⟩
end Go.Proofs.YtmfnkhonghemeaaDoor
