/- package show: Value and Graph of what is no reference -/
import Derived.Test.YtmfnkhonghemeaaDoorIf
namespace Go.Proofs.YtmfnkhonghemeaaDoor
open Go.RowKit
set_option linter.unusedVariables false
set_option linter.unusedSimpArgs false

theorem calls_named {P : Program} {f : FuncId} {args : Array Value} {w : World} {Q : Ending → World → Prop} (h : ∀ W1, W1 = w → Calls P f args W1 Q) : Calls P f args w Q := h w rfl
theorem label_none {W : World} {p : Nat} {hv mv : Value} {n : Int} (h : WK W p hv mv (.slice none 0 0) n) :
    Calls Tryd.prog 14 #[.pointer (some ⟨p, 0, none⟩)] W fun e w' => (∃ v, e = .returned v) ∧ w' = W := by
  have c2 := h.cell (i := 2) rfl
  go_enter Tryd.func14, Tryd.ntmps14
  go_wp2
  refine wp_loop_once ?_
  go_wp2
  exact bodyPost_end (results_none Tryd.results14 _ _ _) rfl ⟨⟨_, rfl⟩, rfl⟩
set_option maxHeartbeats 2000000 in
theorem over_bad {W : World} {p : Nat} {hv mv tv : Value} {n : Int} (h : WK W p hv mv tv n) (hn : n < 500) (h0 : 0 ≤ n) (k x : Int) (hx : validB_v k x = false) :
    Calls Tryd.prog 12 #[.pointer (some ⟨p, 0, none⟩), .agg #[.int .i64 k, .int .i64 x]] W fun e w' => e = .returned (.agg #[.int .i64 33, .int .i64 0]) ∧ Out p (p + 1) W w' := by
  have HH := hid_mk h
  have hl := h.lt
  clear h
  go_enter Tryd.func12, Tryd.ntmps12
  go_wp2_with fail
  refine wp_loop_rounds 1 ?_
  rw [rounds_succ]
  refine wp_named (fun W1 hW1 => ?_)
  have hs1 : W1.heap.size = W.heap.size + 4 := by rw [hW1]; simp only [size_alloc]
  have o1 : Out 0 0 W W1 := by rw [hW1]; exact ((((Out.refl _ _ _).alloc _).alloc _).alloc _).alloc _
  have kS : Bl W1 (W.heap.size + 1 + 1 + 1) #[.slice (some ⟨W.heap.size + 1 + 1, 0, none⟩) 1 1] 24 := by
    rw [hW1]; have := Bl.new (((W.alloc (.cells #[.int .i64 k, .int .i64 x] 28)).alloc (.cells #[.int .i64 0, .int .i64 0] 38)).alloc (.cells #[.int .i64 k, .int .i64 x] 28)) #[.slice (some ⟨W.heap.size + 1 + 1, 0, none⟩) 1 1] 24
    simpa only [size_alloc] using this
  have kV : Bl W1 (W.heap.size + 1 + 1) #[.int .i64 k, .int .i64 x] 28 := by
    rw [hW1]; have := (Bl.new ((W.alloc (.cells #[.int .i64 k, .int .i64 x] 28)).alloc (.cells #[.int .i64 0, .int .i64 0] 38)) #[.int .i64 k, .int .i64 x] 28).alloc (.cells #[.slice (some ⟨W.heap.size + 1 + 1, 0, none⟩) 1 1] 24)
    simpa only [size_alloc] using this
  have kF : Bl W1 (W.heap.size + 1) #[.int .i64 0, .int .i64 0] 38 := by
    rw [hW1]; have := ((Bl.new (W.alloc (.cells #[.int .i64 k, .int .i64 x] 28)) #[.int .i64 0, .int .i64 0] 38).alloc (.cells #[.int .i64 k, .int .i64 x] 28)).alloc (.cells #[.slice (some ⟨W.heap.size + 1 + 1, 0, none⟩) 1 1] 24)
    simpa only [size_alloc] using this
  clear hW1
  have s0 := kS.cell (i := 0) rfl
  have v0 := kV.cell (i := 0) rfl
  have v1 := kV.cell (i := 1) rfl
  have HO1 := hid_mk o1
  have HK := hid_mk kF
  clear o1 kS kV kF
  go_wp2_with (go_at_call 16; refine (meet_no (HH.out.kept HO1.out (.inr (Nat.zero_le _))) hn h0 k x hx).mono ?_; rintro e w2 ⟨rfl, hW2, ho2⟩; have hs2 := ho2.size; have fN := Bl.new w2 #[.int .i64 33, .int .i64 0] 38; have y0 := fN.cell (i := 0) rfl; have y1 := fN.cell (i := 1) rfl; have f2 : Bl (w2.alloc (.cells #[.int .i64 33, .int .i64 0] 38)) (W.heap.size + 1) #[.int .i64 0, .int .i64 0] 38 := (HK.out.kept ho2 (.inr (by omega))).alloc _; have u0 := f2.cell (i := 0) rfl; have u1 := f2.cell (i := 1) rfl; have u2 := f2.frozen 0; have u3 := f2.frozen 1)
  exact retF Tryd.results12 rfl rfl ((f2.set 0 _).set 1 _) ⟨rfl, ((((HO1.out.any _ _).trans ho2).alloc _).setCell (.inr (by simp)) _).setCell (.inr (by simp)) _⟩
set_option maxHeartbeats 2000000 in
theorem value_simple {W : World} {k x : Int} {s : ByteArray} {T : TypeId} {d : Value} (hk : k ≠ 2) (hx : validB_v k x = true)
    (hs : ∀ W1, Out 0 0 W W1 → Calls Tryd.prog 29 #[.agg #[.int .i64 k, .int .i64 x]] W1 fun e w' => e = .returned (.string s) ∧ Out 0 0 W1 w') :
    Calls Tryd.prog 10 #[.iface T d, .agg #[.int .i64 k, .int .i64 x]] W fun e w' => e = .returned (.tuple #[.string s, .agg #[.int .i64 0, .int .i64 0]]) ∧ Out 0 0 W w' := by
  have HS := hid_mk hs
  have hmm := @run_makeMap Tryd.prog
  clear hs
  go_enter Tryd.func10, Tryd.ntmps10
  go_wp2_with fail
  refine calls_named (fun W1 hW1 => ?_)
  have hs1 : W1.heap.size = W.heap.size + 4 := by rw [hW1]; simp only [size_alloc]
  have o1 : Out 0 0 W W1 := by rw [hW1]; exact ((((Out.refl _ _ _).alloc _).alloc _).alloc _).alloc _
  have kW : WK W1 (W.heap.size + 1 + 1 + 1) (.iface T d) (.map (some (W.heap.size + 1 + 1))) (.slice none 0 0) 0 := by
    rw [hW1]; have := Bl.new (((W.alloc (.cells #[.int .i64 k, .int .i64 x] 28)).alloc (.cells #[.int .i64 0, .int .i64 0] 38)).alloc (.map #[] 0)) #[.iface T d, .map (some (W.heap.size + 1 + 1)), .slice none 0 0, .int .i64 0] 53
    unfold WK; simpa only [size_alloc] using this
  have kF : Bl W1 (W.heap.size + 1) #[.int .i64 0, .int .i64 0] 38 := by
    rw [hW1]; have := ((Bl.new (W.alloc (.cells #[.int .i64 k, .int .i64 x] 28)) #[.int .i64 0, .int .i64 0] 38).alloc (.map #[] 0)).alloc (.cells #[.iface T d, .map (some (W.heap.size + 1 + 1)), .slice none 0 0, .int .i64 0] 53)
    simpa only [size_alloc] using this
  have kV : Bl W1 W.heap.size #[.int .i64 k, .int .i64 x] 28 := by
    rw [hW1]; exact (((Bl.new W #[.int .i64 k, .int .i64 x] 28).alloc _).alloc _).alloc _
  clear hW1
  refine (over_one (lo := W.heap.size + 3) (hi := W.heap.size + 4) ⟨Nat.le_refl _, by omega, by omega⟩ (fun _ w => WK w (W.heap.size + 1 + 1 + 1) (.iface T d) (.map (some (W.heap.size + 1 + 1))) (.slice none 0 0) 1) ?m ?r).mono ?_
  case m =>
    intro W2 ho2
    refine (meet_leaf (kW.kept ho2 (.inr (Nat.zero_le _))) (by omega) (by omega) k x hx hk).mono ?_
    rintro e w3 ⟨rfl, h3, ho3⟩
    exact ⟨⟨_, _, rfl⟩, ⟨_, _, _, _, h3, by omega⟩, h3, ho3⟩
  case r =>
    intro W2 a b ha hsz ho
    exact Bl.kept ha ho (.inl (by omega))
  rintro e w2 ⟨rfl, ⟨_, _, k2⟩, o2⟩
  have hs2 := o2.size
  have hp2 : W.heap.size + 1 + 1 + 1 < w2.heap.size := by omega
  have hp3 : W.heap.size + 1 < w2.heap.size := by omega
  have k3 : WK (w2.alloc (.cells #[.int .i64 0, .int .i64 0] 38)) (W.heap.size + 1 + 1 + 1) (.iface T d) (.map (some (W.heap.size + 1 + 1))) (.slice none 0 0) 1 := Bl.alloc k2 _
  have hd : decide ((500 : Int) < 1) = false := rfl
  have fN := Bl.new w2 #[.int .i64 0, .int .i64 0] 38
  have y0 := fN.cell (i := 0) rfl
  have kV4 : Bl ((w2.alloc (.cells #[.int .i64 0, .int .i64 0] 38)).alloc (.cells #[.pointer (some ⟨W.heap.size + 1 + 1 + 1, 0, none⟩), .slice none 0 0, .slice none 0 0] 59)) W.heap.size #[.int .i64 k, .int .i64 x] 28 := ((kV.kept o2 (.inl (by omega))).alloc _).alloc _
  have v0 := kV4.cell (i := 0) rfl
  have v1 := kV4.cell (i := 1) rfl
  have kT : TL ((w2.alloc (.cells #[.int .i64 0, .int .i64 0] 38)).alloc (.cells #[.pointer (some ⟨W.heap.size + 1 + 1 + 1, 0, none⟩), .slice none 0 0, .slice none 0 0] 59)) (w2.heap.size + 1) (.pointer (some ⟨W.heap.size + 1 + 1 + 1, 0, none⟩)) (.slice none 0 0) (.slice none 0 0) := size_alloc w2 (.cells #[.int .i64 0, .int .i64 0] 38) ▸ Bl.new _ _ _
  have o4 : Out 0 0 W ((w2.alloc (.cells #[.int .i64 0, .int .i64 0] 38)).alloc (.cells #[.pointer (some ⟨W.heap.size + 1 + 1 + 1, 0, none⟩), .slice none 0 0, .slice none 0 0] 59)) := ((o1.past o2 (by omega)).alloc _).alloc _
  have kF4 : Bl ((w2.alloc (.cells #[.int .i64 0, .int .i64 0] 38)).alloc (.cells #[.pointer (some ⟨W.heap.size + 1 + 1 + 1, 0, none⟩), .slice none 0 0, .slice none 0 0] 59)) (W.heap.size + 1) #[.int .i64 0, .int .i64 0] 38 := ((kF.kept o2 (.inl (by omega))).alloc _).alloc _
  have HK3 := hid_mk k3
  have HT := hid_mk kT
  have HO4 := hid_mk o4
  have HF4 := hid_mk kF4
  clear k3 kT o4 kF4 kV4 fN o1 kW kF kV k2 o2 hs2 hs1
  go_wp2_with (first
    | (go_at_call 13; refine calls_same (tooLarge_at HK3.out hd) ?_)
    | (go_at_call 14; refine (label_none HK3.out).mono ?_; rintro e w3 ⟨⟨vl, rfl⟩, rfl⟩)
    | (go_at_call 15; refine (text_one HT.out (s := s) (fun W5 tv h5 o5 => whole_simple hk h5 (fun W6 o6 => HS.out W6 ((HO4.out.past o5 (by omega)).trans o6)))).mono ?_; rintro e w5 ⟨rfl, o5⟩; have f5 := HF4.out.kept o5 (.inl (by omega)); have u0 := f5.cell (i := 0) rfl; have u1 := f5.cell (i := 1) rfl; have u2 := f5.frozen 0; have u3 := f5.frozen 1))
  exact retTF Tryd.results10 rfl rfl rfl ((f5.set 0 _).set 1 _) ⟨rfl, (((HO4.out.past o5 (by omega))).setCell (.inr (by simp)) _).setCell (.inr (by simp)) _⟩
set_option maxHeartbeats 2000000 in
theorem value_bad {W : World} {k x : Int} {T : TypeId} {d : Value} (hx : validB_v k x = false) :
    Calls Tryd.prog 10 #[.iface T d, .agg #[.int .i64 k, .int .i64 x]] W fun e w' => e = .returned (.tuple #[.string ⟨#[]⟩, .agg #[.int .i64 33, .int .i64 0]]) ∧ Out 0 0 W w' := by
  have hmm := @run_makeMap Tryd.prog
  go_enter Tryd.func10, Tryd.ntmps10
  go_wp2_with fail
  refine calls_named (fun W1 hW1 => ?_)
  have hs1 : W1.heap.size = W.heap.size + 4 := by rw [hW1]; simp only [size_alloc]
  have o1 : Out 0 0 W W1 := by rw [hW1]; exact ((((Out.refl _ _ _).alloc _).alloc _).alloc _).alloc _
  have kW : WK W1 (W.heap.size + 1 + 1 + 1) (.iface T d) (.map (some (W.heap.size + 1 + 1))) (.slice none 0 0) 0 := by
    rw [hW1]; have := Bl.new (((W.alloc (.cells #[.int .i64 k, .int .i64 x] 28)).alloc (.cells #[.int .i64 0, .int .i64 0] 38)).alloc (.map #[] 0)) #[.iface T d, .map (some (W.heap.size + 1 + 1)), .slice none 0 0, .int .i64 0] 53
    unfold WK; simpa only [size_alloc] using this
  have kF : Bl W1 (W.heap.size + 1) #[.int .i64 0, .int .i64 0] 38 := by
    rw [hW1]; have := ((Bl.new (W.alloc (.cells #[.int .i64 k, .int .i64 x] 28)) #[.int .i64 0, .int .i64 0] 38).alloc (.map #[] 0)).alloc (.cells #[.iface T d, .map (some (W.heap.size + 1 + 1)), .slice none 0 0, .int .i64 0] 53)
    simpa only [size_alloc] using this
  have kV : Bl W1 W.heap.size #[.int .i64 k, .int .i64 x] 28 := by
    rw [hW1]; exact (((Bl.new W #[.int .i64 k, .int .i64 x] 28).alloc _).alloc _).alloc _
  clear hW1
  refine (over_bad kW (by omega) (by omega) k x hx).mono ?_
  rintro e w2 ⟨rfl, o2⟩
  have hs2 := o2.size
  have hp2 : W.heap.size + 1 + 1 + 1 < w2.heap.size := by omega
  have hp3 : W.heap.size + 1 < w2.heap.size := by omega
  have fN := Bl.new w2 #[.int .i64 33, .int .i64 0] 38
  have y0 := fN.cell (i := 0) rfl
  have y1 := fN.cell (i := 1) rfl
  have f5 : Bl (w2.alloc (.cells #[.int .i64 33, .int .i64 0] 38)) (W.heap.size + 1) #[.int .i64 0, .int .i64 0] 38 := (kF.kept o2 (.inl (by omega))).alloc _
  have u0 := f5.cell (i := 0) rfl
  have u1 := f5.cell (i := 1) rfl
  have u2 := f5.frozen 0
  have u3 := f5.frozen 1
  have o4 : Out 0 0 W (w2.alloc (.cells #[.int .i64 33, .int .i64 0] 38)) := (o1.past o2 (by omega)).alloc _
  have g5 : Bl w2 (W.heap.size + 1) #[.int .i64 0, .int .i64 0] 38 := kF.kept o2 (.inl (by omega))
  have t0 := g5.cell (i := 0) rfl
  have t1 := g5.cell (i := 1) rfl
  have t2 := g5.frozen 0
  have t3 := g5.frozen 1
  have o2' : Out 0 0 W w2 := o1.past o2 (by omega)
  have HO4 := hid_mk o2'
  have HF := hid_mk g5
  clear o4 f5 fN o1 kW kF kV o2 hs2 hs1 g5 o2'
  go_wp2_with fail
  go_region
  all_goals go_wp2
  all_goals exact retTF Tryd.results10 rfl rfl rfl (((HF.out.set 0 _).set 1 _).alloc (.cells #[.int .i64 33, .int .i64 0] 38)) ⟨rfl, (((HO4.out.setCell (.inr (by simp)) _).setCell (.inr (by simp)) _).alloc _).drew⟩
set_option maxHeartbeats 2000000 in
/-- Graph of no nodes: as Value says -/
theorem graph_empty {W : World} {k x : Int} {s : ByteArray} {a b : Int}
    (hV : ∀ W1 T d, Out 0 0 W W1 → Calls Tryd.prog 10 #[.iface T d, .agg #[.int .i64 k, .int .i64 x]] W1 fun e w' => e = .returned (.tuple #[.string s, .agg #[.int .i64 a, .int .i64 b]]) ∧ Out 0 0 W1 w') :
    Calls Tryd.prog 8 #[.agg #[.slice none 0 0, .slice none 0 0], .agg #[.int .i64 k, .int .i64 x]] W fun e w' => e = .returned (.tuple #[.string s, .agg #[.int .i64 a, .int .i64 b]]) ∧ Out 0 0 W w' := by
  have HV := hid_mk hV
  have hmm := @run_makeMap Tryd.prog
  clear hV
  go_enter Tryd.func8, Tryd.ntmps8
  go_wp2_with fail
  refine wp_loop_once ?_
  go_wp2_with fail
  refine calls_named (fun W1 hW1 => ?_)
  have hs1 : W1.heap.size = W.heap.size + 5 := by rw [hW1]; simp only [size_alloc]
  have o1 : Out 0 0 W W1 := by rw [hW1]; exact (((((Out.refl _ _ _).alloc _).alloc _).alloc _).alloc _).alloc _
  have kF : Bl W1 (W.heap.size + 1 + 1) #[.int .i64 0, .int .i64 0] 38 := by
    rw [hW1]; have := ((Bl.new ((W.alloc (.cells #[.slice none 0 0, .slice none 0 0] 26)).alloc (.cells #[.int .i64 k, .int .i64 x] 28)) #[.int .i64 0, .int .i64 0] 38).alloc (.map #[] 0)).alloc (.cells #[.slice none 0 0, .map (some (W.heap.size + 1 + 1 + 1))] 45)
    simpa only [size_alloc] using this
  clear hW1
  refine (HV.out W1 _ _ o1).mono ?_
  rintro e w2 ⟨rfl, o2⟩
  have f2 := kF.kept o2 (.inr (Nat.zero_le _))
  have t0 := f2.cell (i := 0) rfl
  have t1 := f2.cell (i := 1) rfl
  have t2 := f2.frozen 0
  have t3 := f2.frozen 1
  have HO := hid_mk (o1.trans o2)
  have HF := hid_mk f2
  clear f2 o1 o2 kF
  go_wp2_with fail
  exact retTF Tryd.results8 rfl rfl rfl ((HF.out.set 0 _).set 1 _) ⟨rfl, (HO.out.setCell (.inr (by simp; omega)) _).setCell (.inr (by simp; omega)) _⟩
/-- Graph of no nodes and a fixnum -/
theorem graph_fix {W : World} {n : Int} (ht : Tp W) (h : -1152921504606846976 ≤ n ∧ n ≤ 1152921504606846975) :
    Calls Tryd.prog 8 #[.agg #[.slice none 0 0, .slice none 0 0], .agg #[.int .i64 1, .int .i64 n]] W fun e w' => e = .returned (.tuple #[.string ⟨(Lib.itoa n).toArray⟩, .agg #[.int .i64 0, .int .i64 0]]) ∧ Out 0 0 W w' :=
  graph_empty fun W1 T d o1 => value_simple (by decide) (by rw [valid1_v]; unfold fitsB_v; simpa using h) fun W2 o2 => simple_fix n (by omega) (by omega) (ht.kept (o1.trans o2) (.inr rfl))
theorem graph_bad {W : World} {k n : Int} (h : validB_v k n = false) :
    Calls Tryd.prog 8 #[.agg #[.slice none 0 0, .slice none 0 0], .agg #[.int .i64 k, .int .i64 n]] W fun e w' => e = .returned (.tuple #[.string ⟨#[]⟩, .agg #[.int .i64 33, .int .i64 0]]) ∧ Out 0 0 W w' :=
  graph_empty fun W1 T d o1 => value_bad h
end Go.Proofs.YtmfnkhonghemeaaDoor
