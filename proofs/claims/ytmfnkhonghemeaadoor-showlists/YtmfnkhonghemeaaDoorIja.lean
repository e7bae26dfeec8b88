/- package show: Value of a chain -/
import Derived.Test.YtmfnkhonghemeaaDoorIiz
import Derived.Test.YtmfnkhonghemeaaDoorIy
namespace Go.Proofs.YtmfnkhonghemeaaDoor
open Go.RowKit
set_option linter.unusedVariables false
set_option linter.unusedSimpArgs false

/-- what a chain is told as -/
def txtS (k : Int) (n : Nat) (rg : Bool) : ByteArray := if arV k * n + 1 ≤ 500 then ⟨(((finP k n rg).map (·.data.toList)).flatten).toArray⟩ else ⟨#[35, 60, 108, 97, 114, 103, 101, 62]⟩
/-- what is asked of a heap, whatever memory is new -/
def ChH (W : World) (k : Int) (n : Nat) (rg : Bool) (T : TypeId) (d : Value) : Prop := ∀ j : Nat, 1 ≤ j → j ≤ n → ∃ (a1 a2 a3 : Option Addr) (l1 l2 l3 c1 c2 c3 : Nat), ∀ w, Out 0 0 W w →
  Calls Tryd.prog 36 #[.iface T d, .agg #[.int .i64 2, .int .i64 (j : Int)]] w (fun e' w' => e' = .returned (.tuple #[.agg #[.int .i64 (j : Int), .int .i64 k, .slice a1 l1 c1, .slice a2 l2 c2, .slice a3 l3 c3], .agg #[.int .i64 0, .int .i64 0]]) ∧ Out 0 0 w w') ∧
  Calls Tryd.prog 37 #[.agg #[.int .i64 (j : Int), .int .i64 k, .slice a1 l1 c1, .slice a2 l2 c2, .slice a3 l3 c3]] w (fun e w' => (∃ g, e = .returned (.slice (some ⟨g, 0, none⟩) (arV k) (arV k)) ∧ w.heap.size ≤ g ∧ Bl w' g (flat (hdV k n rg j)).toArray 28) ∧ Out 0 0 w w')
theorem Fx.out0 {S : Nat → Prop} {w w' : World} (h : Fx S w w') (hS : ∀ b, S b → w.heap.size ≤ b) : Out 0 0 w w' := ⟨h.1, h.2.1, h.2.2.1, h.size, fun k h1 _ => h.2.2.2.2 k h1 (fun h2 => by have := hS k h2; omega)⟩
set_option maxRecDepth 100000 in
set_option maxHeartbeats 4000000 in
theorem value_chain {W : World} {k : Int} {n : Nat} {rg : Bool} {T : TypeId} {d : Value} (hk : k = 1 ∨ k = 2) (hrk : k = 2 → rg = false) (hn : 1 ≤ n ∧ n ≤ 600) (HA : ChH W k n rg T d) (hT : WT W) (h8 : 2 ≤ W.heap.size) :
    Calls Tryd.prog 10 #[.iface T d, .agg #[.int .i64 2, .int .i64 1]] W fun e w' => e = .returned (.tuple #[.string (txtS k n rg), .agg #[.int .i64 0, .int .i64 0]]) ∧ Out 0 0 W w' := by
  have HA := hid_mk HA
  have HT := hid_mk hT
  have H8 := hid_mk h8
  have HK := hid_mk hk
  have HRK := hid_mk hrk
  have HN := hid_mk hn
  have hmm := @run_makeMap Tryd.prog
  clear hT h8 hk hrk hn
  go_enter Tryd.func10, Tryd.ntmps10
  go_wp2_with fail
  refine calls_named (fun W1 hW1 => ?_)
  have hs1 : W1.heap.size = W.heap.size + 4 := by rw [hW1]; simp only [size_alloc]
  have o1 : Out 0 0 W W1 := by rw [hW1]; exact ((((Out.refl _ _ _).alloc _).alloc _).alloc _).alloc _
  have kW : WK W1 (W.heap.size + 1 + 1 + 1) (.iface T d) (.map (some (W.heap.size + 1 + 1))) (.slice none 0 0) 0 := by
    rw [hW1]; have := Bl.new (((W.alloc (.cells #[.int .i64 2, .int .i64 1] 28)).alloc (.cells #[.int .i64 0, .int .i64 0] 38)).alloc (.map #[] 0)) #[.iface T d, .map (some (W.heap.size + 1 + 1)), .slice none 0 0, .int .i64 0] 53
    unfold WK; simpa only [size_alloc] using this
  have kF : Bl W1 (W.heap.size + 1) #[.int .i64 0, .int .i64 0] 38 := by
    rw [hW1]; have := ((Bl.new (W.alloc (.cells #[.int .i64 2, .int .i64 1] 28)) #[.int .i64 0, .int .i64 0] 38).alloc (.map #[] 0)).alloc (.cells #[.iface T d, .map (some (W.heap.size + 1 + 1)), .slice none 0 0, .int .i64 0] 53)
    simpa only [size_alloc] using this
  have kV : Bl W1 W.heap.size #[.int .i64 2, .int .i64 1] 28 := by
    rw [hW1]; exact (((Bl.new W #[.int .i64 2, .int .i64 1] 28).alloc _).alloc _).alloc _
  have kM : MpAt W1 (W.heap.size + 1 + 1) (fun _ => none) := by
    rw [hW1]
    have := (mp_new ((W.alloc (.cells #[.int .i64 2, .int .i64 1] 28)).alloc (.cells #[.int .i64 0, .int .i64 0] 38))).kept ((Out.refl 0 0 _).alloc (.cells #[.iface T d, .map (some (W.heap.size + 1 + 1)), .slice none 0 0, .int .i64 0] 53)) (.inr (Nat.zero_le _))
    simpa only [size_alloc] using this
  clear hW1
  have hCN : ChN W1 (W.heap.size + 1 + 1 + 1) (W.heap.size + 1 + 1) k n rg T d := fun j h1 h2 => by
    obtain ⟨a1, a2, a3, l1, l2, l3, c1, c2, c3, h⟩ := HA.out j h1 h2
    exact ⟨a1, a2, a3, l1, l2, l3, c1, c2, c3, fun w x => h w (((Fx.of_out (S := fun b => b = W.heap.size + 1 + 1 + 1 ∨ b = W.heap.size + 1 + 1) o1 (fun b h1 h2 _ => by omega)).trans x).out0 (fun b h => by omega))⟩
  refine (chain_over HK.out HN.out ⟨rfl, by omega⟩ hCN kW kM).mono ?_
  rintro e w2 ⟨rfl, x2, hE⟩
  have hs2 := x2.size
  have kV2 := kV.fx x2 (by omega)
  have kF2 := kF.fx x2 (by omega)
  have hp0 : W.heap.size < w2.heap.size := by omega
  have hp1 : W.heap.size + 1 < w2.heap.size := by omega
  have hp2 : W.heap.size + 1 + 1 + 1 < w2.heap.size := by omega
  have fN := Bl.new w2 #[.int .i64 0, .int .i64 0] 38
  have y0 := fN.cell (i := 0) rfl
  have x02 : Out 0 0 W w2 := ((Fx.of_out (S := fun b => b = W.heap.size + 1 + 1 + 1 ∨ b = W.heap.size + 1 + 1) o1 (fun b h1 h2 _ => by omega)).trans x2).out0 (fun b h => by omega)
  rcases hE with ⟨hle, gvs, g, cap, cur, hW2, hM2, hgl, hgv, hg, hB, hTh⟩ | ⟨hgt, hv, mv, tv, hW2⟩
  · have hd : decide ((500 : Int) < ((arV k * n + 1 : Nat) : Int)) = false := by simp only [decide_eq_false_iff_not]; omega
    have hgw := hB.lt
    have k3 : WK (w2.alloc (.cells #[.int .i64 0, .int .i64 0] 38)) (W.heap.size + 1 + 1 + 1) (.iface T d) (.map (some (W.heap.size + 1 + 1))) (.slice (some ⟨g, 0, none⟩) n cap) ((arV k * n + 1 : Nat) : Int) := Bl.alloc hW2 _
    have HK3 := hid_mk k3
    have HLb := hid_mk (label_chain HK.out HN.out.2 hgl k3 (hB.alloc (.cells #[.int .i64 0, .int .i64 0] 38)) hTh (by omega))
    have HE := hid_mk (And.intro hle (And.intro hW2 (And.intro hM2 (And.intro hgl (And.intro hgv (And.intro hg (And.intro hB (And.intro kV2 (And.intro kF2 (And.intro x02 (And.intro hs1 hs2)))))))))))
    clear k3 fN kV2 kF2 hW2 hM2 hgl hgv hg hB hTh hle x02 x2 hs1 hs2 o1 kW kF kV kM hCN HA
    go_wp2_with (go_at_call 13; refine calls_same (tooLarge_at HK3.out hd) ?_)
    refine HLb.out.mono ?_
    rintro e w3 ⟨⟨vl, rfl⟩, cur3, hB3, hTh3, o3⟩
    obtain ⟨hle, hW2, hM2, hgl, hgv, hg, hB, kV2, kF2, x02, hs1, hs2⟩ := HE.out
    have o23 : Out g (g + 1) w2 w3 := ((Out.refl g (g + 1) w2).alloc _).trans o3
    have hs3 := o23.size
    have x23 : Fx (fun b => b = g) w2 w3 := Fx.of_out o23 (fun b h1 h2 _ => by omega)
    have V3 := kV2.fx x23 (by omega)
    have F3 := kF2.fx x23 (by omega)
    have hp0' : W.heap.size < w3.heap.size := by omega
    have hp1' : W.heap.size + 1 < w3.heap.size := by omega
    have x03 : Out 0 0 W w3 := x02.past o23 (by omega)
    have kV4 := V3.alloc (.cells #[.pointer (some ⟨W.heap.size + 1 + 1 + 1, 0, none⟩), .slice none 0 0, .slice none 0 0] 59)
    have u0 := kV4.cell (i := 0) rfl
    have u1 := kV4.cell (i := 1) rfl
    have v0' := V3.cell (i := 0) rfl
    have v1' := V3.cell (i := 1) rfl
    have o4 : Out 0 0 w3 (w3.alloc (.cells #[.pointer (some ⟨W.heap.size + 1 + 1 + 1, 0, none⟩), .slice none 0 0, .slice none 0 0] 59)) := (Out.refl _ _ _).alloc _
    have kT : TL (w3.alloc (.cells #[.pointer (some ⟨W.heap.size + 1 + 1 + 1, 0, none⟩), .slice none 0 0, .slice none 0 0] 59)) w3.heap.size (.pointer (some ⟨W.heap.size + 1 + 1 + 1, 0, none⟩)) (.slice none 0 0) (.slice none 0 0) := Bl.new _ _ _
    have hF3 : WF w3 w3.heap.size (W.heap.size + 1 + 1 + 1) (W.heap.size + 1 + 1) g k n rg gvs (fun _ => false) := by
      refine ⟨⟨_, _, _, hW2.fx x23 (by omega)⟩, hM2.fx x23 (by omega), ⟨cur3, hB3, ?_⟩, hgl, fun j gv e => ?_, by omega, by omega, by omega, by omega, by omega, HT.out.out x03, by have := H8.out; omega, HN.out.2⟩
      · exact hTh3
      · obtain ⟨a, b⟩ := hgv j gv e
        have hne : gv ≠ g := fun e => by
          subst e
          have := b.symm.trans hB
          simp at this
        have b3 := b.fx x23 hne
        exact ⟨b3.lt, hne, b3⟩
    have HTx := hid_mk (text_chain HK.out HRK.out HN.out kT (hF3.out o4))
    have hg4 : W.heap.size + 4 ≤ g := by omega
    have HF := hid_mk (And.intro F3 (And.intro x03 (And.intro hle hg4)))
    clear kV4 kT o4 V3 F3 o3 hF3 x23 o23 hB3 hTh3 hW2 hM2 hgl hgv hg hB kV2 kF2 x02 hs1 hs2 hs3 x03 hle
    go_wp2_with (go_at_call 15; (refine HTx.out.mono ?_; rintro e w5 ⟨rfl, x5⟩; have f5 := (HF.out.1.alloc (.cells #[.pointer (some ⟨W.heap.size + 1 + 1 + 1, 0, none⟩), .slice none 0 0, .slice none 0 0] 59)).fx x5 (by have := HF.out.2.2.2; omega); have m0 := f5.cell (i := 0) rfl; have m1 := f5.cell (i := 1) rfl; have m2 := f5.frozen 0; have m3 := f5.frozen 1))
    obtain ⟨F3, x03, hle, hg⟩ := HF.out
    have x05 : Out 0 0 W w5 := ((Fx.of_out (S := fun b => W.heap.size ≤ b) (x03.alloc _) (fun b h1 h2 _ => by omega)).trans (x5.wide (fun b _ h => by omega))).out0 (fun b h => h)
    exact retTF Tryd.results10 rfl rfl rfl ((f5.set 0 _).set 1 _) ⟨by unfold txtS; rw [if_pos hle]; rfl, (x05.setCell (.inr (by simp)) _).setCell (.inr (by simp)) _⟩
  · have hd : decide ((500 : Int) < 501) = true := rfl
    have k3 : WK (w2.alloc (.cells #[.int .i64 0, .int .i64 0] 38)) (W.heap.size + 1 + 1 + 1) hv mv tv 501 := Bl.alloc hW2 _
    have HK3 := hid_mk k3
    have m0 := kF2.cell (i := 0) rfl
    have m1 := kF2.cell (i := 1) rfl
    have m2 := kF2.frozen 0
    have m3 := kF2.frozen 1
    have HF := hid_mk (And.intro kF2 (And.intro x02 hgt))
    clear k3 fN kV2 kF2 hW2 x02 x2 hs1 hs2 o1 kW kF kV kM hCN HA hgt
    go_wp2_with (go_at_call 13; refine calls_same (tooLarge_at HK3.out hd) ?_)
    obtain ⟨f5, x02, hgt⟩ := HF.out
    exact retTF Tryd.results10 rfl rfl rfl (((f5.set 0 _).set 1 _).alloc _) ⟨by unfold txtS; rw [if_neg (by omega)]; rfl, ((x02.setCell (.inr (by simp)) _).setCell (.inr (by simp)) _).alloc _⟩
end Go.Proofs.YtmfnkhonghemeaaDoor
