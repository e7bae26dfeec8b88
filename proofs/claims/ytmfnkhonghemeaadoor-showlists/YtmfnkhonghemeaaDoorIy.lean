/- package show: Value and Graph of a leaf -/
import Derived.Test.YtmfnkhonghemeaaDoorIx
namespace Go.Proofs.YtmfnkhonghemeaaDoor
open Go.RowKit
set_option linter.unusedVariables false
set_option linter.unusedSimpArgs false

set_option maxRecDepth 100000 in
set_option maxHeartbeats 4000000 in
theorem value_leaf {W : World} {T : TypeId} {d : Value} {x i k : Int} {s : ByteArray} {a1 a2 a3 : Option Addr} {l1 l2 l3 c1 c2 c3 : Nat} (hk : opaque_ k = some s) (hx : validB_v 2 x = true)
    (hA : ∀ W1, Out 0 0 W W1 → Calls Tryd.prog 36 #[.iface T d, .agg #[.int .i64 2, .int .i64 x]] W1 fun e' w' => e' = .returned (.tuple #[.agg #[.int .i64 i, .int .i64 k, .slice a1 l1 c1, .slice a2 l2 c2, .slice a3 l3 c3], .agg #[.int .i64 0, .int .i64 0]]) ∧ Out 0 0 W1 w') :
    Calls Tryd.prog 10 #[.iface T d, .agg #[.int .i64 2, .int .i64 x]] W fun e w' => e = .returned (.tuple #[.string s, .agg #[.int .i64 0, .int .i64 0]]) ∧ Out 0 0 W w' := by
  have HA := hid_mk hA
  have hmm := @run_makeMap Tryd.prog
  obtain ⟨k1, k2, k3, _⟩ := opaque_not hk
  clear hA
  go_enter Tryd.func10, Tryd.ntmps10
  go_wp2_with fail
  refine calls_named (fun W1 hW1 => ?_)
  have hs1 : W1.heap.size = W.heap.size + 4 := by rw [hW1]; simp only [size_alloc]
  have o1 : Out 0 0 W W1 := by rw [hW1]; exact ((((Out.refl _ _ _).alloc _).alloc _).alloc _).alloc _
  have kW : WK W1 (W.heap.size + 1 + 1 + 1) (.iface T d) (.map (some (W.heap.size + 1 + 1))) (.slice none 0 0) 0 := by
    rw [hW1]; have := Bl.new (((W.alloc (.cells #[.int .i64 2, .int .i64 x] 28)).alloc (.cells #[.int .i64 0, .int .i64 0] 38)).alloc (.map #[] 0)) #[.iface T d, .map (some (W.heap.size + 1 + 1)), .slice none 0 0, .int .i64 0] 53
    unfold WK; simpa only [size_alloc] using this
  have kF : Bl W1 (W.heap.size + 1) #[.int .i64 0, .int .i64 0] 38 := by
    rw [hW1]; have := ((Bl.new (W.alloc (.cells #[.int .i64 2, .int .i64 x] 28)) #[.int .i64 0, .int .i64 0] 38).alloc (.map #[] 0)).alloc (.cells #[.iface T d, .map (some (W.heap.size + 1 + 1)), .slice none 0 0, .int .i64 0] 53)
    simpa only [size_alloc] using this
  have kV : Bl W1 W.heap.size #[.int .i64 2, .int .i64 x] 28 := by
    rw [hW1]; exact (((Bl.new W #[.int .i64 2, .int .i64 x] 28).alloc _).alloc _).alloc _
  have kM : MpAt W1 (W.heap.size + 1 + 1) (fun _ => none) := by
    rw [hW1]
    have := (mp_new ((W.alloc (.cells #[.int .i64 2, .int .i64 x] 28)).alloc (.cells #[.int .i64 0, .int .i64 0] 38))).kept ((Out.refl 0 0 _).alloc (.cells #[.iface T d, .map (some (W.heap.size + 1 + 1)), .slice none 0 0, .int .i64 0] 53)) (.inr (Nat.zero_le _))
    simpa only [size_alloc] using this
  clear hW1
  refine (over_one (lo := W.heap.size + 2) (hi := W.heap.size + 4) ⟨by omega, by omega, by omega⟩ (fun W2 w => ∃ (ah : Option Addr) (ch g cap : Nat) (cur : Array Value), W2.heap.size ≤ g ∧ WK w (W.heap.size + 1 + 1 + 1) (.iface T d) (.map (some (W.heap.size + 1 + 1))) (.slice (some ⟨g, 0, none⟩) 1 cap) 1 ∧ Bl w g cur 68 ∧ (∀ (j : Nat) (u : Value), (thC k ah ch s)[j]? = some u → cur[j]? = some u) ∧ MpAt w (W.heap.size + 1 + 1) (fun y => if y = x then some (.int .i64 0) else none)) ?m ?r).mono ?_
  case m =>
    intro W2 ho2
    refine (meet_first (n := 0) hk (by omega) (by omega) hx (kW.kept ho2 (.inr (Nat.zero_le _))) (kM.kept ho2 (.inr (Nat.zero_le _))) rfl rfl (fun W3 ho3 => HA.out W3 ((o1.trans ho2).past ho3 (by omega)))).mono ?_
    rintro e w3 ⟨he, ah, ch, g, cap, cur, hg, r1, r2, r3, r4, r5⟩
    exact ⟨he, ⟨_, _, _, _, r1, by omega⟩, ⟨ah, ch, g, cap, cur, hg, r1, r2, r3, r4⟩, r5⟩
  case r =>
    rintro W2 a b ⟨ah, ch, g, cap, cur, hg, r1, r2, r3, r4⟩ hsz ho
    exact ⟨ah, ch, g, cap, cur, hg, r1.kept ho (.inl (by omega)), r2.kept ho (.inr hg), r3, r4.kept ho (.inl (by omega))⟩
  rintro e w2 ⟨rfl, ⟨W2, o12, ah, ch, g, cap, cur, hg, r1, r2, r3, r4⟩, o2⟩
  have hs2 := o2.size
  have hs12 := o12.size
  have hg2 := r2.lt
  have hp2 : W.heap.size + 1 + 1 + 1 < w2.heap.size := by omega
  have hp3 : W.heap.size + 1 < w2.heap.size := by omega
  obtain ⟨c0, c2, _, c5⟩ := th_at r3
  have k3' : WK (w2.alloc (.cells #[.int .i64 0, .int .i64 0] 38)) (W.heap.size + 1 + 1 + 1) (.iface T d) (.map (some (W.heap.size + 1 + 1))) (.slice (some ⟨g, 0, none⟩) 1 cap) 1 := Bl.alloc r1 _
  have hd : decide ((500 : Int) < 1) = false := rfl
  have fN := Bl.new w2 #[.int .i64 0, .int .i64 0] 38
  have y0 := fN.cell (i := 0) rfl
  have HLb := hid_mk (label_leaf k1 k2 k3 k3' (r2.alloc (.cells #[.int .i64 0, .int .i64 0] 38)) c0 c2 ⟨_, c5⟩ (by omega))
  have HK3 := hid_mk k3'
  have HR := hid_mk (And.intro r4 (And.intro (kV.kept o2 (.inl (by omega))) (And.intro (kF.kept o2 (.inl (by omega))) (o1.past o2 (by omega)))))
  have HC := hid_mk (And.intro c0 (And.intro c2 (And.intro hg2 (And.intro hg hs12))))
  have HS := hid_mk (And.intro hs1 hs2)
  clear k3' fN o1 kW kF kV kM o2 hs2 hs1 r1 r2 r3 r4 c0 c2 c5 o12 hg hs12 hg2
  go_wp2_with (first
    | (go_at_call 13; refine calls_same (tooLarge_at HK3.out hd) ?_))
  refine HLb.out.mono ?_
  rintro e w3 ⟨⟨vl, rfl⟩, q1, q2, q3⟩
  have hw3 := q3.size
  rw [size_alloc] at hw3
  obtain ⟨d0, d2, hg2, hg, hs12⟩ := HC.out
  obtain ⟨hs1, hs2⟩ := HS.out
  obtain ⟨m2, v2, f2, o2⟩ := HR.out
  have q3' : Out g (g + 1) w2 w3 := ((Out.refl g (g + 1) w2).alloc _).trans q3
  have M3 := m2.kept q3' (.inl (by omega))
  have V3 := v2.kept q3' (.inl (by omega))
  have F3 := f2.kept q3' (.inl (by omega))
  have o3 : Out 0 0 W w3 := o2.past q3' (by omega)
  have e0 : (cur.setIfInBounds 5 (.int .i64 (-1)))[0]? = some (.int .i64 k) := by rw [Array.getElem?_setIfInBounds_ne (by decide)]; exact d0
  have e2 : (cur.setIfInBounds 5 (.int .i64 (-1)))[2]? = some (.string s) := by rw [Array.getElem?_setIfInBounds_ne (by decide)]; exact d2
  have kV4 := V3.alloc (.cells #[.pointer (some ⟨W.heap.size + 1 + 1 + 1, 0, none⟩), .slice none 0 0, .slice none 0 0] 59)
  have x0 := kV4.cell (i := 0) rfl
  have x1 := kV4.cell (i := 1) rfl
  have hp4 : W.heap.size < w3.heap.size := by omega
  have hp5 : W.heap.size + 1 < w3.heap.size := by omega
  have v0' := V3.cell (i := 0) rfl
  have v1' := V3.cell (i := 1) rfl
  have kT : TL (w3.alloc (.cells #[.pointer (some ⟨W.heap.size + 1 + 1 + 1, 0, none⟩), .slice none 0 0, .slice none 0 0] 59)) w3.heap.size (.pointer (some ⟨W.heap.size + 1 + 1 + 1, 0, none⟩)) (.slice none 0 0) (.slice none 0 0) := Bl.new _ _ _
  have o4 : Out 0 0 w3 (w3.alloc (.cells #[.pointer (some ⟨W.heap.size + 1 + 1 + 1, 0, none⟩), .slice none 0 0, .slice none 0 0] 59)) := (Out.refl _ _ _).alloc _
  have HT := hid_mk (text_one kT (s := s) (k := 2) (x := x) (fun W5 tv h5 o5 => whole_leaf k1 k2 k3 h5 ((q1.kept o4 (.inr (Nat.zero_le _))).kept o5 (.inl (by omega))) ((M3.kept o4 (.inr (Nat.zero_le _))).kept o5 (.inl (by omega))) (if_pos rfl) ((q2.kept o4 (.inr (Nat.zero_le _))).kept o5 (.inl (by omega))) e0 e2))
  have HF := hid_mk (And.intro F3 o3)
  clear kV4 kT o4 M3 V3 F3 o3 q3' q1 q2 q3 m2 v2 f2 o2 e0 e2 d0 d2
  go_wp2_with (go_at_call 15; refine HT.out.mono ?_; rintro e w5 ⟨rfl, o5⟩; have f5 := (HF.out.1.alloc (.cells #[.pointer (some ⟨W.heap.size + 1 + 1 + 1, 0, none⟩), .slice none 0 0, .slice none 0 0] 59)).kept o5 (.inl (by omega)); have u0 := f5.cell (i := 0) rfl; have u1 := f5.cell (i := 1) rfl; have u2 := f5.frozen 0; have u3 := f5.frozen 1)
  exact retTF Tryd.results10 rfl rfl rfl ((f5.set 0 _).set 1 _) ⟨rfl, (((HF.out.2.alloc _).past o5 (by omega)).setCell (.inr (by simp)) _).setCell (.inr (by simp)) _⟩
theorem rounds_named0 {P : Program} {m : Nat} {c : Code} {Q : Exit → Act → World → Prop} {a : Act} {w : World} (h : ∀ W1, W1 = w → Code.rounds P c Q m a W1) : Code.rounds P c Q m a w := h w rfl
set_option maxRecDepth 100000 in
set_option maxHeartbeats 4000000 in
theorem graph_leaf {W : World} {L c : Nat} {i k : Int} {s : ByteArray} {a1 a2 a3 : Option Addr} {l1 l2 l3 c1 c2 c3 : Nat} (hk : opaque_ k = some s) (hi : 0 ≤ i ∧ i ≤ 1152921504606846975)
    (hL : Bl W L #[.int .i64 i, .int .i64 k, .slice a1 l1 c1, .slice a2 l2 c2, .slice a3 l3 c3] 34) :
    Calls Tryd.prog 8 #[.agg #[.slice (some ⟨L, 0, none⟩) 1 c, .slice none 0 0], .agg #[.int .i64 2, .int .i64 i]] W fun e w' => e = .returned (.tuple #[.string s, .agg #[.int .i64 0, .int .i64 0]]) ∧ Out 0 0 W w' := by
  have HL := hid_mk hL
  have hmm := @run_makeMap Tryd.prog
  have hll := hL.lt
  have hx : validB_v 2 i = true := by rw [valid2_v]; unfold fitsB_v; simp; omega
  have n0 := hL.cell (i := 0) rfl
  have n1 := hL.cell (i := 1) rfl
  have n2 := hL.cell (i := 2) rfl
  have n3 := hL.cell (i := 3) rfl
  have n4 := hL.cell (i := 4) rfl
  clear hL hi
  go_enter Tryd.func8, Tryd.ntmps8
  go_wp2_with fail
  refine wp_loop_rounds 2 ?_
  refine rounds_named0 (fun W1 hW1 => ?_)
  have hs1 : W1.heap.size = W.heap.size + 5 := by rw [hW1]; simp only [size_alloc]
  have o1 : Out 0 0 W W1 := by rw [hW1]; exact (((((Out.refl _ _ _).alloc _).alloc _).alloc _).alloc _).alloc _
  have kV : Bl W1 (W.heap.size + 1) #[.int .i64 2, .int .i64 i] 28 := by
    rw [hW1]; have := (((Bl.new (W.alloc (.cells #[.slice (some ⟨L, 0, none⟩) 1 c, .slice none 0 0] 26)) #[.int .i64 2, .int .i64 i] 28).alloc (.cells #[.int .i64 0, .int .i64 0] 38)).alloc (.map #[] 0)).alloc (.cells #[.slice (some ⟨L, 0, none⟩) 1 c, .map (some (W.heap.size + 1 + 1 + 1))] 45)
    simpa only [size_alloc] using this
  have kF : Bl W1 (W.heap.size + 1 + 1) #[.int .i64 0, .int .i64 0] 38 := by
    rw [hW1]; have := ((Bl.new ((W.alloc (.cells #[.slice (some ⟨L, 0, none⟩) 1 c, .slice none 0 0] 26)).alloc (.cells #[.int .i64 2, .int .i64 i] 28)) #[.int .i64 0, .int .i64 0] 38).alloc (.map #[] 0)).alloc (.cells #[.slice (some ⟨L, 0, none⟩) 1 c, .map (some (W.heap.size + 1 + 1 + 1))] 45)
    simpa only [size_alloc] using this
  have kM : MpAt W1 (W.heap.size + 1 + 1 + 1) (fun _ => none) := by
    rw [hW1]
    have := (mp_new (((W.alloc (.cells #[.slice (some ⟨L, 0, none⟩) 1 c, .slice none 0 0] 26)).alloc (.cells #[.int .i64 2, .int .i64 i] 28)).alloc (.cells #[.int .i64 0, .int .i64 0] 38))).kept ((Out.refl 0 0 _).alloc (.cells #[.slice (some ⟨L, 0, none⟩) 1 c, .map (some (W.heap.size + 1 + 1 + 1))] 45)) (.inr (Nat.zero_le _))
    simpa only [size_alloc] using this
  have kN : Bl W1 (W.heap.size + 1 + 1 + 1 + 1) #[.slice (some ⟨L, 0, none⟩) 1 c, .map (some (W.heap.size + 1 + 1 + 1))] 45 := by
    rw [hW1]; have := Bl.new ((((W.alloc (.cells #[.slice (some ⟨L, 0, none⟩) 1 c, .slice none 0 0] 26)).alloc (.cells #[.int .i64 2, .int .i64 i] 28)).alloc (.cells #[.int .i64 0, .int .i64 0] 38)).alloc (.map #[] 0)) #[.slice (some ⟨L, 0, none⟩) 1 c, .map (some (W.heap.size + 1 + 1 + 1))] 45
    simpa only [size_alloc] using this
  clear hW1 n0 n1 n2 n3 n4
  have kL := HL.out.kept o1 (.inr (Nat.zero_le _))
  have n0 := kL.cell (i := 0) rfl
  have n1 := kL.cell (i := 1) rfl
  have n2 := kL.cell (i := 2) rfl
  have n3 := kL.cell (i := 3) rfl
  have n4 := kL.cell (i := 4) rfl
  have o2 : Out 0 0 W1 (W1.alloc (.cells #[.int .i64 i, .int .i64 k, .slice a1 l1 c1, .slice a2 l2 c2, .slice a3 l3 c3] 34)) := (Out.refl _ _ _).alloc _
  have M2 := kM.kept o2 (.inr (Nat.zero_le _))
  have lk := mp_look true Tryd.underlying43 Tryd.underlying3 (zero_int _) M2 i
  simp only [Option.getD_none, Option.isSome_none, if_true] at lk
  obtain ⟨W3, hrun, M3, q3⟩ := mp_put Tryd.underlying43 Tryd.underlying3 M2 i (.int .i64 0)
  have q3' : Out (W.heap.size + 3) (W.heap.size + 4) W1 W3 := (o2.any _ _).trans q3
  have kN2 := kN.kept o2 (.inr (Nat.zero_le _))
  have e0 := kN2.cell (i := 0) rfl
  have e1 := kN2.cell (i := 1) rfl
  have e0' := kN.cell (i := 0) rfl
  have e1' := kN.cell (i := 1) rfl
  have kN3 := kN.kept q3' (.inr (by omega))
  have f0 := kN3.cell (i := 0) rfl
  have f1 := kN3.cell (i := 1) rfl
  have kV3 := kV.kept q3' (.inl (by omega))
  have v0 := kV3.cell (i := 0) rfl
  have v1 := kV3.cell (i := 1) rfl
  have kF3 := kF.kept q3' (.inl (by omega))
  have kL3 := kL.kept q3' (.inl (by omega))
  have o3 : Out 0 0 W W3 := o1.past q3' (by omega)
  have HV := hid_mk (value_leaf (W := W3) (T := 45) (d := .agg #[.slice (some ⟨L, 0, none⟩) 1 c, .map (some (W.heap.size + 1 + 1 + 1))]) (x := i) (i := i) (a1 := a1) (a2 := a2) (a3 := a3) (l1 := l1) (l2 := l2) (l3 := l3) (c1 := c1) (c2 := c2) (c3 := c3) hk hx (fun W5 o5 => ask_one ⟨_, _, _, rfl⟩ ⟨_, _, _, rfl⟩ ⟨_, _, _, rfl⟩ (fun W6 o6 => node_one (ra := 0) (la := 0) (ca := 0) (fa := 0) (lf := 0) (cf := 0) (ea := 0) (le := 0) (ce := 0) _ _ _ ⟨_, _, _, rfl⟩ ⟨_, _, _, rfl⟩ ⟨_, _, _, rfl⟩ (M3.kept (o5.trans o6) (.inr (Nat.zero_le _))) (if_pos rfl) (kL3.kept (o5.trans o6) (.inr (Nat.zero_le _))))))
  have HE := hid_mk (And.intro kF3 o3)
  clear kV kF kM kN kL M2 o2 q3 q3' kN2 kN3 kV3 kF3 kL3 o3 o1 M3
  rw [rounds_succ]
  go_wp2_with fail
  rw [rounds_succ]
  go_wp2_with (go_at_call 10; refine HV.out.mono ?_; rintro e w5 ⟨rfl, o5⟩; have f5 := HE.out.1.kept o5 (.inr (Nat.zero_le _)); have t0 := f5.cell (i := 0) rfl; have t1 := f5.cell (i := 1) rfl; have t2 := f5.frozen 0; have t3 := f5.frozen 1)
  exact retTF Tryd.results8 rfl rfl rfl ((f5.set 0 _).set 1 _) ⟨rfl, ((HE.out.2.trans o5).setCell (.inr (by simp; omega)) _).setCell (.inr (by simp; omega)) _⟩
theorem ref_any (n : Int) (w : World) : Calls Tryd.prog 5 #[.int .i64 n] w fun e w' => e = .returned (.agg #[.int .i64 2, .int .i64 n]) ∧ Out 0 0 w w' := by
  go_enter Tryd.func5, Tryd.ntmps5
  go_wp2
  exact retVal_v Tryd.results5 rfl rfl (Bl.new w #[.int .i64 2, .int .i64 n] 28) ⟨rfl, (Out.refl _ _ _).alloc _⟩
end Go.Proofs.YtmfnkhonghemeaaDoor
