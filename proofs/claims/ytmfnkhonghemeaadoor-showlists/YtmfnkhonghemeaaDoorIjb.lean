/- package show: Graph of a chain -/
import Derived.Test.YtmfnkhonghemeaaDoorIja
namespace Go.Proofs.YtmfnkhonghemeaaDoor
open Go.RowKit
set_option linter.unusedVariables false
set_option linter.unusedSimpArgs false

/-- a chain's nodes in memory -/
def GrC (W : World) (L : Nat) (k : Int) (n : Nat) (rg : Bool) : Prop := ∃ (cur : Array Value) (Fs : Nat → Nat), Bl W L cur 34 ∧ ∀ i, i < n → cur[i * 5]? = some (.int .i64 ((i : Int) + 1)) ∧ cur[i * 5 + 1]? = some (.int .i64 k) ∧ cur[i * 5 + 2]? = some (.slice none 0 0) ∧
  cur[i * 5 + 3]? = some (.slice (some ⟨Fs i, 0, none⟩) (arV k) (arV k)) ∧ cur[i * 5 + 4]? = some (.slice none 0 0) ∧ Bl W (Fs i) (flat (hdV k n rg (i + 1))).toArray 28
theorem GrC.kept {W w : World} {L : Nat} {k : Int} {n : Nat} {rg : Bool} (h : GrC W L k n rg) (o : Out 0 0 W w) : GrC w L k n rg := by
  obtain ⟨cur, Fs, hB, h⟩ := h
  refine ⟨cur, Fs, hB.kept o (.inr (Nat.zero_le _)), fun i hi => ?_⟩
  obtain ⟨a, b, c, d, e, f⟩ := h i hi
  exact ⟨a, b, c, d, e, f.kept o (.inr (Nat.zero_le _))⟩
theorem GrC.lt {W : World} {L : Nat} {k : Int} {n : Nat} {rg : Bool} (h : GrC W L k n rg) : L < W.heap.size := by
  obtain ⟨cur, Fs, hB, _⟩ := h
  exact hB.lt
set_option maxRecDepth 100000 in
set_option maxHeartbeats 2000000 in
/-- the node of a number -/
theorem node_at {W : World} {L c m n j : Nat} {f0 : Int → Option Value} {x i k : Int} {a1 a2 a3 : Option Addr} {l1 l2 l3 c1 c2 c3 : Nat} {cur : Array Value} (hj : j < n) (hn : n ≤ 600)
    (hm : MpAt W m f0) (hx : f0 x = some (.int .i64 (j : Int))) (hL : Bl W L cur 34) (h0 : cur[j * 5]? = some (.int .i64 i)) (h1 : cur[j * 5 + 1]? = some (.int .i64 k)) (h2 : cur[j * 5 + 2]? = some (.slice a1 l1 c1)) (h3 : cur[j * 5 + 3]? = some (.slice a2 l2 c2)) (h4 : cur[j * 5 + 4]? = some (.slice a3 l3 c3)) :
    Calls Tryd.prog 110 #[.agg #[.slice (some ⟨L, 0, none⟩) n c, .map (some m)], .agg #[.int .i64 2, .int .i64 x]] W fun e' w' => e' = .returned (.tuple #[.agg #[.int .i64 i, .int .i64 k, .slice a1 l1 c1, .slice a2 l2 c2, .slice a3 l3 c3], .agg #[.int .i64 0, .int .i64 0]]) ∧ Out 0 0 W w' := by
  have o1 : Out 0 0 W ((((W.alloc (.cells #[.slice (some ⟨L, 0, none⟩) n c, .map (some m)] 45)).alloc (.cells #[.int .i64 2, .int .i64 x] 28)).alloc (.cells #[.int .i64 0, .int .i64 0, .slice none 0 0, .slice none 0 0, .slice none 0 0] 34)).alloc (.cells #[.int .i64 0, .int .i64 0] 38)) := ((((Out.refl _ _ _).alloc _).alloc _).alloc _).alloc _
  have lk := mp_look true Tryd.underlying43 Tryd.underlying3 (zero_int _) (hm.kept o1 (.inr (Nat.zero_le _))) x
  rw [hx] at lk
  simp only [Option.getD_some, Option.isSome_some, if_true] at lk
  have L1 := hL.kept o1 (.inr (Nat.zero_le _))
  have l0 := L1.cell h0
  have l1 := L1.cell h1
  have l2 := L1.cell h2
  have l3 := L1.cell h3
  have l4 := L1.cell h4
  have hll := hL.lt
  have HO := hid_mk o1
  have b0 : (0 : Int) ≤ (j : Int) := by omega
  have b1 : (j : Int) < (n : Int) := by omega
  have b2 : (n : Int) ≤ 600 := by omega
  clear hm hL hx o1 L1 h0 h1 h2 h3 h4 hj hn
  go_enter Tryd.func110, Tryd.ntmps110
  go_wp2_with fail
  refine bodyPost_ret (results_two Tryd.results110 rfl rfl (load_nd ?n) (load_flt ?f)) rfl ⟨rfl, ((((Out.refl _ _ _).alloc _).alloc _).alloc _).alloc _⟩
  case n => simpa only [size_alloc] using (Bl.new ((W.alloc (.cells #[.slice (some ⟨L, 0, none⟩) n c, .map (some m)] 45)).alloc (.cells #[.int .i64 2, .int .i64 x] 28)) #[.int .i64 i, .int .i64 k, .slice a1 _ c1, .slice a2 _ c2, .slice a3 _ c3] 34).alloc _
  case f => simpa only [size_alloc] using Bl.new (((W.alloc (.cells #[.slice (some ⟨L, 0, none⟩) n c, .map (some m)] 45)).alloc (.cells #[.int .i64 2, .int .i64 x] 28)).alloc (.cells #[.int .i64 i, .int .i64 k, .slice a1 _ c1, .slice a2 _ c2, .slice a3 _ c3] 34)) #[.int .i64 0, .int .i64 0] 38
/-- a chain as a heap -/
theorem ch_heap {W : World} {L c m n : Nat} {k : Int} {rg : Bool} (hk : k = 1 ∨ k = 2) (hn : n ≤ 600) (h : GrC W L k n rg) (hm : MpAt W m (fK n)) : ChH W k n rg 45 (.agg #[.slice (some ⟨L, 0, none⟩) n c, .map (some m)]) := by
  obtain ⟨cur, Fs, hB, h⟩ := h
  intro j h1 h2
  obtain ⟨i, rfl⟩ : ∃ i, j = i + 1 := ⟨j - 1, by omega⟩
  obtain ⟨a, b, c', d, e, f⟩ := h i (by omega)
  have ei : ((i + 1 : Nat) : Int) = (i : Int) + 1 := by omega
  rw [ei]
  refine ⟨none, some ⟨Fs i, 0, none⟩, none, 0, arV k, 0, 0, arV k, 0, fun w o => ⟨?_, ?_⟩⟩
  · exact ask_one ⟨_, _, _, rfl⟩ ⟨_, _, _, rfl⟩ ⟨_, _, _, rfl⟩ (fun W6 o6 => node_at (j := i) (by omega) hn (hm.kept (o.trans o6) (.inr (Nat.zero_le _))) (fK_at (by omega)) (hB.kept (o.trans o6) (.inr (Nat.zero_le _))) a b c' d e)
  · have f' := f.kept o (.inr (Nat.zero_le _))
    obtain ⟨x, y, hxy⟩ : ∃ x y, nx n rg (i + 1) = (x, y) := ⟨_, _, rfl⟩
    rcases hk with rfl | rfl
    · obtain ⟨dd, hd⟩ : ∃ d : Int, (((i + 1) % 10 : Nat) : Int) = d := ⟨_, rfl⟩
      have e1 : (flat (hdV 1 n rg (i + 1))).toArray = #[.int .i64 1, .int .i64 dd, .int .i64 x, .int .i64 y] := by unfold hdV; rw [if_pos rfl, hxy, hd]; rfl
      rw [e1] at f' ⊢
      exact held_two f'
    · have e1 : (flat (hdV 2 n rg (i + 1))).toArray = #[.int .i64 x, .int .i64 y] := by unfold hdV; rw [if_neg (by decide), hxy]; rfl
      rw [e1] at f' ⊢
      exact held_one f'
set_option maxRecDepth 100000 in
set_option maxHeartbeats 4000000 in
theorem graph_chain {W : World} {L c n : Nat} {k : Int} {rg : Bool} (hk : k = 1 ∨ k = 2) (hrk : k = 2 → rg = false) (hn : 1 ≤ n ∧ n ≤ 600) (h : GrC W L k n rg) (hT : WT W) (h8 : 2 ≤ W.heap.size) :
    Calls Tryd.prog 8 #[.agg #[.slice (some ⟨L, 0, none⟩) n c, .slice none 0 0], .agg #[.int .i64 2, .int .i64 1]] W fun e w' => e = .returned (.tuple #[.string (txtS k n rg), .agg #[.int .i64 0, .int .i64 0]]) ∧ Out 0 0 W w' := by
  have HG := hid_mk h
  have HT := hid_mk hT
  have H8 := hid_mk h8
  have HK := hid_mk hk
  have HRK := hid_mk hrk
  have HN := hid_mk hn
  have hmm := @run_makeMap Tryd.prog
  have hll := h.lt
  have bn : (n : Int) ≤ 600 := by omega
  clear h hT h8 hk hrk hn
  go_enter Tryd.func8, Tryd.ntmps8
  go_wp2_with fail
  refine wp_named (fun W1 hW1 => ?_)
  have hs1 : W1.heap.size = W.heap.size + 5 := by rw [hW1]; simp only [size_alloc]
  have o1 : Out 0 0 W W1 := by rw [hW1]; exact (((((Out.refl _ _ _).alloc _).alloc _).alloc _).alloc _).alloc _
  have kV : Bl W1 (W.heap.size + 1) #[.int .i64 2, .int .i64 1] 28 := by
    rw [hW1]; have := (((Bl.new (W.alloc (.cells #[.slice (some ⟨L, 0, none⟩) n c, .slice none 0 0] 26)) #[.int .i64 2, .int .i64 1] 28).alloc (.cells #[.int .i64 0, .int .i64 0] 38)).alloc (.map #[] 0)).alloc (.cells #[.slice (some ⟨L, 0, none⟩) n c, .map (some (W.heap.size + 1 + 1 + 1))] 45)
    simpa only [size_alloc] using this
  have kF : Bl W1 (W.heap.size + 1 + 1) #[.int .i64 0, .int .i64 0] 38 := by
    rw [hW1]; have := ((Bl.new ((W.alloc (.cells #[.slice (some ⟨L, 0, none⟩) n c, .slice none 0 0] 26)).alloc (.cells #[.int .i64 2, .int .i64 1] 28)) #[.int .i64 0, .int .i64 0] 38).alloc (.map #[] 0)).alloc (.cells #[.slice (some ⟨L, 0, none⟩) n c, .map (some (W.heap.size + 1 + 1 + 1))] 45)
    simpa only [size_alloc] using this
  have kM : MpAt W1 (W.heap.size + 1 + 1 + 1) (fun _ => none) := by
    rw [hW1]
    have := (mp_new (((W.alloc (.cells #[.slice (some ⟨L, 0, none⟩) n c, .slice none 0 0] 26)).alloc (.cells #[.int .i64 2, .int .i64 1] 28)).alloc (.cells #[.int .i64 0, .int .i64 0] 38))).kept ((Out.refl 0 0 _).alloc (.cells #[.slice (some ⟨L, 0, none⟩) n c, .map (some (W.heap.size + 1 + 1 + 1))] 45)) (.inr (Nat.zero_le _))
    simpa only [size_alloc] using this
  have kN : Bl W1 (W.heap.size + 1 + 1 + 1 + 1) #[.slice (some ⟨L, 0, none⟩) n c, .map (some (W.heap.size + 1 + 1 + 1))] 45 := by
    rw [hW1]; have := Bl.new ((((W.alloc (.cells #[.slice (some ⟨L, 0, none⟩) n c, .slice none 0 0] 26)).alloc (.cells #[.int .i64 2, .int .i64 1] 28)).alloc (.cells #[.int .i64 0, .int .i64 0] 38)).alloc (.map #[] 0)) #[.slice (some ⟨L, 0, none⟩) n c, .map (some (W.heap.size + 1 + 1 + 1))] 45
    simpa only [size_alloc] using this
  have hK0 : fK 0 = fun _ => none := by funext y; unfold fK; rw [if_neg (by omega)]
  rw [← hK0] at kM
  have H1 := hid_mk (And.intro hs1 (And.intro o1 (And.intro kV (And.intro kF (And.intro kM kN)))))
  clear hW1 hs1 o1 kV kF kM kN hK0
  go_loopw [18] (fun iv wr => ∃ j : Nat, iv = .int .i64 (j : Int) ∧ j ≤ n ∧ MpAt wr (W.heap.size + 1 + 1 + 1) (fK j) ∧ Fx (fun b => b = W.heap.size + 1 + 1 + 1) W1 wr) (fun iv _ => n - (intOf iv).toNat)
  case atStart => exact ⟨0, rfl, Nat.zero_le _, H1.out.2.2.2.2.1, ⟨rfl, rfl, rfl, Nat.le_refl _, fun _ _ _ => rfl⟩⟩
  case round =>
    obtain ⟨j, rfl, hj, hM, hX⟩ := hrel
    obtain ⟨hs1, o1, kV, kF, kM, kN⟩ := H1.out
    have x0r : Out 0 0 W wr := ((Fx.of_out (S := fun b => b = W.heap.size + 1 + 1 + 1) o1 (fun b h1 h2 _ => by omega)).trans hX).out0 (fun b h => by omega)
    have kNr := kN.fx hX (by omega)
    have e0' := kNr.cell (i := 0) rfl
    have e1' := kNr.cell (i := 1) rfl
    by_cases hjn : j < n
    · have c0 : (0 : Int) ≤ (j : Int) := by omega
      have c1 : (j : Int) < (n : Int) := by omega
      obtain ⟨cur, Fs, hB, hC⟩ := HG.out.kept x0r
      obtain ⟨d0, d1, d2, d3, d4, _⟩ := hC j hjn
      have n0 := hB.cell d0
      have n1 := hB.cell d1
      have n2 := hB.cell d2
      have n3 := hB.cell d3
      have n4 := hB.cell d4
      have o2 : Out 0 0 wr (wr.alloc (.cells #[.int .i64 ((j : Int) + 1), .int .i64 k, .slice none 0 0, .slice (some ⟨Fs j, 0, none⟩) (arV k) (arV k), .slice none 0 0] 34)) := (Out.refl _ _ _).alloc _
      have M2 := hM.kept o2 (.inr (Nat.zero_le _))
      have lk := mp_look true Tryd.underlying43 Tryd.underlying3 (zero_int _) M2 ((j : Int) + 1)
      have hkn : fK j ((j : Int) + 1) = none := by unfold fK; rw [if_neg (by omega)]
      rw [hkn] at lk
      simp only [Option.getD_none, Option.isSome_none, if_true] at lk
      obtain ⟨W3, hrun, M3, q3⟩ := mp_put Tryd.underlying43 Tryd.underlying3 M2 ((j : Int) + 1) (.int .i64 (j : Int))
      rw [fK_succ] at M3
      have kN2 := kNr.kept o2 (.inr (Nat.zero_le _))
      have e0 := kN2.cell (i := 0) rfl
      have e1 := kN2.cell (i := 1) rfl
      have HE := hid_mk (And.intro M3 (And.intro hX ((Fx.of_out (S := fun b => b = W.heap.size + 1 + 1 + 1) o2 (fun b h1 h2 _ => by omega)).trans (Fx.of_out q3 (fun b h1 h2 _ => by omega)))))
      have HJ := hid_mk hj
      have hlr : L < wr.heap.size := hB.lt
      clear hM hX hs1 o1 kV kF kM kN x0r kNr hB hC d0 d1 d2 d3 d4 o2 M2 hkn M3 q3 kN2 hj hjn
      go_wp2_with fail
      obtain ⟨M3, hX, x3⟩ := HE.out
      refine ⟨⟨j + 1, rfl, ?_, M3, hX.trans x3⟩, ?_⟩
      · omega
      · simp [intOf]; omega
    · have hje : j = n := by omega
      subst hje
      have kVr := kV.fx hX (by omega)
      have v0 := kVr.cell (i := 0) rfl
      have v1 := kVr.cell (i := 1) rfl
      have kFr := kF.fx hX (by omega)
      have HV := hid_mk (value_chain HK.out HRK.out HN.out (ch_heap (c := c) HK.out HN.out.2 (HG.out.kept x0r) hM) (HT.out.out x0r) (Nat.le_trans H8.out x0r.size))
      have HE := hid_mk (And.intro kFr x0r)
      clear hM hX hs1 o1 kV kF kM kN x0r kNr kVr kFr hj hjn
      go_wp2_with (go_at_call 10; refine HV.out.mono ?_; rintro e w5 ⟨rfl, o5⟩; have f5 := HE.out.1.kept o5 (.inr (Nat.zero_le _)); have t0 := f5.cell (i := 0) rfl; have t1 := f5.cell (i := 1) rfl; have t2 := f5.frozen 0; have t3 := f5.frozen 1)
      exact retTF Tryd.results8 rfl rfl rfl ((f5.set 0 _).set 1 _) ⟨rfl, ((HE.out.2.trans o5).setCell (.inr (by simp; omega)) _).setCell (.inr (by simp; omega)) _⟩
end Go.Proofs.YtmfnkhonghemeaaDoor
