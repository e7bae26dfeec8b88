/- package show: Value and Graph of a text that is too large -/
import Derived.Test.YtkgdignpjammbaaDoorIhe
namespace Go.Proofs.YtkgdignpjammbaaDoor
open Go.RowKit
set_option linter.unusedVariables false
set_option linter.unusedSimpArgs false

set_option maxRecDepth 100000 in
set_option maxHeartbeats 4000000 in
theorem over_large {W : World} {lo hi p : Nat} {k x : Int} (hp : lo ≤ p ∧ p < hi ∧ hi ≤ W.heap.size) {hv mv : Value} {n : Int} (hn : 500 < n)
    (hm : ∀ W1, Out 0 0 W W1 → Calls Tryd.prog 19 #[.pointer (some ⟨p, 0, none⟩), .agg #[.int .i64 k, .int .i64 x]] W1 fun e w' =>
      (∃ a c, e = .returned (.tuple #[.slice a 0 c, .agg #[.int .i64 0, .int .i64 0]])) ∧ (∃ tv, WK w' p hv mv tv n) ∧ Out lo hi W1 w') :
    Calls Tryd.prog 15 #[.pointer (some ⟨p, 0, none⟩), .agg #[.int .i64 k, .int .i64 x]] W fun e w' => e = .returned (.agg #[.int .i64 0, .int .i64 0]) ∧ (∃ tv, WK w' p hv mv tv n) ∧ Out lo hi W w' := by
  have HM := hid_mk hm
  have HP := hid_mk hp
  clear hm hp
  have hd : decide (500 < n) = true := by simp; omega
  go_enter Tryd.func15, Tryd.ntmps15
  go_wp2_with fail
  refine wp_loop_rounds 1 ?_
  rw [rounds_succ]
  refine wp_named (fun W1 hW1 => ?_)
  have hs1 : W1.heap.size = W.heap.size + 4 := by rw [hW1]; simp only [size_alloc]
  have o1 : Out 0 0 W W1 := by rw [hW1]; exact ((((Out.refl _ _ _).alloc _).alloc _).alloc _).alloc _
  have kS : Bl W1 (W.heap.size + 1 + 1 + 1) #[.slice (some ⟨W.heap.size + 1 + 1, 0, none⟩) 1 1] 29 := by
    rw [hW1]; have := Bl.new (((W.alloc (.cells #[.int .i64 k, .int .i64 x] 33)).alloc (.cells #[.int .i64 0, .int .i64 0] 25)).alloc (.cells #[.int .i64 k, .int .i64 x] 33)) #[.slice (some ⟨W.heap.size + 1 + 1, 0, none⟩) 1 1] 29
    simpa only [size_alloc] using this
  have kV : Bl W1 (W.heap.size + 1 + 1) #[.int .i64 k, .int .i64 x] 33 := by
    rw [hW1]; have := (Bl.new ((W.alloc (.cells #[.int .i64 k, .int .i64 x] 33)).alloc (.cells #[.int .i64 0, .int .i64 0] 25)) #[.int .i64 k, .int .i64 x] 33).alloc (.cells #[.slice (some ⟨W.heap.size + 1 + 1, 0, none⟩) 1 1] 29)
    simpa only [size_alloc] using this
  have kF : Bl W1 (W.heap.size + 1) #[.int .i64 0, .int .i64 0] 25 := by
    rw [hW1]; have := ((Bl.new (W.alloc (.cells #[.int .i64 k, .int .i64 x] 33)) #[.int .i64 0, .int .i64 0] 25).alloc (.cells #[.int .i64 k, .int .i64 x] 33)).alloc (.cells #[.slice (some ⟨W.heap.size + 1 + 1, 0, none⟩) 1 1] 29)
    simpa only [size_alloc] using this
  clear hW1
  have s0 := kS.cell (i := 0) rfl
  have v0 := kV.cell (i := 0) rfl
  have v1 := kV.cell (i := 1) rfl
  have HO1 := hid_mk o1
  have HK := hid_mk kF
  clear o1 kS kV kF
  go_wp2_with (first
    | (go_at_call 19; refine (HM.out _ HO1.out).mono ?_; rintro e w2 ⟨⟨a2, c2, rfl⟩, ⟨tv, hW2⟩, ho2⟩; have hs2 := ho2.size; have hp1 := HP.out; have fN := Bl.new w2 #[.int .i64 0, .int .i64 0] 25; have y0 := fN.cell (i := 0) rfl; have y1 := fN.cell (i := 1) rfl; have f2 : Bl (w2.alloc (.cells #[.int .i64 0, .int .i64 0] 25)) (W.heap.size + 1) #[.int .i64 0, .int .i64 0] 25 := (HK.out.kept ho2 (.inr (by omega))).alloc _; have u0 := f2.cell (i := 0) rfl; have u1 := f2.cell (i := 1) rfl; have u2 := f2.frozen 0; have u3 := f2.frozen 1; have kW2 : WK (w2.alloc (.cells #[.int .i64 0, .int .i64 0] 25)) p hv mv tv n := Bl.alloc hW2 _)
    | (go_at_call 16; refine calls_same (tooLarge_at kW2 hd) ?_))
  exact retF Tryd.results15 rfl rfl ((f2.set 0 _).set 1 _) ⟨rfl, ⟨tv, Bl.other (Bl.other kW2 (by show W.heap.size + 1 ≠ p; omega) _) (by show W.heap.size + 1 ≠ p; omega) _⟩, ((((HO1.out.any _ _).trans ho2).alloc _).setCell (.inr (by simp)) _).setCell (.inr (by simp)) _⟩
def largeV : ByteArray := ⟨#[35, 60, 108, 97, 114, 103, 101, 62]⟩
set_option maxRecDepth 100000 in
set_option maxHeartbeats 4000000 in
theorem value_large {W : World} {T : TypeId} {d : Value} {x i : Int} {a1 a2 a3 : Option Addr} {l1 l2 l3 c1 c2 c3 : Nat} (hl1 : (l1 : Int) ≤ 4096) (hsm : 500 < 1 + (l1 : Int)) (hx : validB_v 2 x = true)
    (hA : ∀ W1, Out 0 0 W W1 → Calls Tryd.prog 39 #[.iface T d, .agg #[.int .i64 2, .int .i64 x]] W1 fun e' w' => e' = .returned (.tuple #[.agg #[.int .i64 i, .int .i64 4, .slice a1 l1 c1, .slice a2 l2 c2, .slice a3 l3 c3], .agg #[.int .i64 0, .int .i64 0]]) ∧ Out 0 0 W1 w') :
    Calls Tryd.prog 14 #[.iface T d, .agg #[.int .i64 2, .int .i64 x]] W fun e w' => e = .returned (.tuple #[.string largeV, .agg #[.int .i64 0, .int .i64 0]]) ∧ Out 0 0 W w' := by
  have HA := hid_mk hA
  have hmm := @run_makeMap Tryd.prog
  have k1 : (4 : Int) ≠ 1 := by decide
  have k2 : (4 : Int) ≠ 2 := by decide
  have k3 : (4 : Int) ≠ 3 := by decide
  have HSM := hid_mk (And.intro hl1 hsm)
  have hnn : 500 < (0 : Int) + 1 + l1 := by omega
  have HNN := hid_mk hnn
  clear hl1 hsm hnn
  clear hA
  go_enter Tryd.func14, Tryd.ntmps14
  go_wp2_with fail
  refine calls_named (fun W1 hW1 => ?_)
  have hs1 : W1.heap.size = W.heap.size + 4 := by rw [hW1]; simp only [size_alloc]
  have o1 : Out 0 0 W W1 := by rw [hW1]; exact ((((Out.refl _ _ _).alloc _).alloc _).alloc _).alloc _
  have kW : WK W1 (W.heap.size + 1 + 1 + 1) (.iface T d) (.map (some (W.heap.size + 1 + 1))) (.slice none 0 0) 0 := by
    rw [hW1]; have := Bl.new (((W.alloc (.cells #[.int .i64 2, .int .i64 x] 33)).alloc (.cells #[.int .i64 0, .int .i64 0] 25)).alloc (.map #[] 0)) #[.iface T d, .map (some (W.heap.size + 1 + 1)), .slice none 0 0, .int .i64 0] 57
    unfold WK; simpa only [size_alloc] using this
  have kF : Bl W1 (W.heap.size + 1) #[.int .i64 0, .int .i64 0] 25 := by
    rw [hW1]; have := ((Bl.new (W.alloc (.cells #[.int .i64 2, .int .i64 x] 33)) #[.int .i64 0, .int .i64 0] 25).alloc (.map #[] 0)).alloc (.cells #[.iface T d, .map (some (W.heap.size + 1 + 1)), .slice none 0 0, .int .i64 0] 57)
    simpa only [size_alloc] using this
  have kV : Bl W1 W.heap.size #[.int .i64 2, .int .i64 x] 33 := by
    rw [hW1]; exact (((Bl.new W #[.int .i64 2, .int .i64 x] 33).alloc _).alloc _).alloc _
  have kM : MpAt W1 (W.heap.size + 1 + 1) (fun _ => none) := by
    rw [hW1]
    have := (mp_new ((W.alloc (.cells #[.int .i64 2, .int .i64 x] 33)).alloc (.cells #[.int .i64 0, .int .i64 0] 25))).kept ((Out.refl 0 0 _).alloc (.cells #[.iface T d, .map (some (W.heap.size + 1 + 1)), .slice none 0 0, .int .i64 0] 57)) (.inr (Nat.zero_le _))
    simpa only [size_alloc] using this
  clear hW1
  refine (over_large (lo := W.heap.size + 2) (hi := W.heap.size + 4) (hv := .iface T d) (mv := .map (some (W.heap.size + 1 + 1))) (n := 0 + 1 + l1) ⟨by omega, by omega, by omega⟩ HNN.out ?m).mono ?_
  case m =>
    intro W2 ho2
    refine (meet_large (n := 0) HSM.out.1 HNN.out (by omega) (by omega) hx (kW.kept ho2 (.inr (Nat.zero_le _))) (kM.kept ho2 (.inr (Nat.zero_le _))) rfl rfl (fun W3 ho3 => HA.out W3 ((o1.trans ho2).past ho3 (by omega)))).mono ?_
    rintro e w3 ⟨he, ah, ch, g, cap, cur, hg, r1, r2, r3, r4, r5⟩
    exact ⟨he, ⟨_, r1⟩, r5⟩
  rintro e w2 ⟨rfl, ⟨tv, r1⟩, o2⟩
  have hs2 := o2.size
  have hp2 : W.heap.size + 1 + 1 + 1 < w2.heap.size := by omega
  have hp3 : W.heap.size + 1 < w2.heap.size := by omega
  have k3' : WK (w2.alloc (.cells #[.int .i64 0, .int .i64 0] 25)) (W.heap.size + 1 + 1 + 1) (.iface T d) (.map (some (W.heap.size + 1 + 1))) tv (0 + 1 + l1) := Bl.alloc r1 _
  have hd : decide ((500 : Int) < 0 + 1 + l1) = true := by have := HNN.out; simp; omega
  have fN := Bl.new w2 #[.int .i64 0, .int .i64 0] 25
  have y0 := fN.cell (i := 0) rfl
  have F2 := kF.kept o2 (.inl (by omega))
  have f2 := F2.alloc (.cells #[.int .i64 0, .int .i64 0] 25)
  have u0 := f2.cell (i := 0) rfl
  have u1 := f2.cell (i := 1) rfl
  have u2 := f2.frozen 0
  have u3 := f2.frozen 1
  have t0 := F2.cell (i := 0) rfl
  have t1 := F2.cell (i := 1) rfl
  have t2 := F2.frozen 0
  have t3 := F2.frozen 1
  have HK3 := hid_mk k3'
  have HF := hid_mk (And.intro F2 (o1.past o2 (by omega)))
  clear k3' fN f2 o1 kW kF kV kM o2 hs2 hs1 r1 F2
  go_wp2_with (go_at_call 16; refine calls_same (tooLarge_at HK3.out hd) ?_)
  exact retTF Tryd.results14 rfl rfl rfl (((HF.out.1.set 0 _).set 1 _).alloc _) ⟨rfl, ((HF.out.2.setCell (.inr (by simp)) _).setCell (.inr (by simp)) _).alloc _⟩
set_option maxRecDepth 100000 in
set_option maxHeartbeats 4000000 in
theorem graph_large {W : World} {L c : Nat} {i : Int} {a1 a2 a3 : Option Addr} {l1 l2 l3 c1 c2 c3 : Nat} (hl1 : (l1 : Int) ≤ 4096) (hsm : 500 < 1 + (l1 : Int)) (hi : 0 ≤ i ∧ i ≤ 1152921504606846975)
    (hL : Bl W L #[.int .i64 i, .int .i64 4, .slice a1 l1 c1, .slice a2 l2 c2, .slice a3 l3 c3] 42) :
    Calls Tryd.prog 8 #[.agg #[.slice (some ⟨L, 0, none⟩) 1 c, .slice none 0 0], .agg #[.int .i64 2, .int .i64 i]] W fun e w' => e = .returned (.tuple #[.string largeV, .agg #[.int .i64 0, .int .i64 0]]) ∧ Out 0 0 W w' := by
  have HL := hid_mk hL
  have HSM := hid_mk (And.intro hl1 hsm)
  clear hl1 hsm
  have hmm := @run_makeMap Tryd.prog
  have hll := hL.lt
  have hx : validB_v 2 i = true := by rw [valid2_v]; unfold fitsB_v; simp; omega
  have n0 := hL.cell (i := 0) rfl
  have n1 := hL.cell (i := 1) rfl
  have n2 := hL.cell (i := 2) rfl
  have n3 := hL.cell (i := 3) rfl
  have n4 := hL.cell (i := 4) rfl
  clear hL hi
  go_enter Tryd.func8, Tryd.ntmps8
  go_wp2_with fail
  refine wp_loop_rounds 2 ?_
  refine rounds_named0 (fun W1 hW1 => ?_)
  have hs1 : W1.heap.size = W.heap.size + 5 := by rw [hW1]; simp only [size_alloc]
  have o1 : Out 0 0 W W1 := by rw [hW1]; exact (((((Out.refl _ _ _).alloc _).alloc _).alloc _).alloc _).alloc _
  have kV : Bl W1 (W.heap.size + 1) #[.int .i64 2, .int .i64 i] 33 := by
    rw [hW1]; have := (((Bl.new (W.alloc (.cells #[.slice (some ⟨L, 0, none⟩) 1 c, .slice none 0 0] 31)) #[.int .i64 2, .int .i64 i] 33).alloc (.cells #[.int .i64 0, .int .i64 0] 25)).alloc (.map #[] 0)).alloc (.cells #[.slice (some ⟨L, 0, none⟩) 1 c, .map (some (W.heap.size + 1 + 1 + 1))] 50)
    simpa only [size_alloc] using this
  have kF : Bl W1 (W.heap.size + 1 + 1) #[.int .i64 0, .int .i64 0] 25 := by
    rw [hW1]; have := ((Bl.new ((W.alloc (.cells #[.slice (some ⟨L, 0, none⟩) 1 c, .slice none 0 0] 31)).alloc (.cells #[.int .i64 2, .int .i64 i] 33)) #[.int .i64 0, .int .i64 0] 25).alloc (.map #[] 0)).alloc (.cells #[.slice (some ⟨L, 0, none⟩) 1 c, .map (some (W.heap.size + 1 + 1 + 1))] 50)
    simpa only [size_alloc] using this
  have kM : MpAt W1 (W.heap.size + 1 + 1 + 1) (fun _ => none) := by
    rw [hW1]
    have := (mp_new (((W.alloc (.cells #[.slice (some ⟨L, 0, none⟩) 1 c, .slice none 0 0] 31)).alloc (.cells #[.int .i64 2, .int .i64 i] 33)).alloc (.cells #[.int .i64 0, .int .i64 0] 25))).kept ((Out.refl 0 0 _).alloc (.cells #[.slice (some ⟨L, 0, none⟩) 1 c, .map (some (W.heap.size + 1 + 1 + 1))] 50)) (.inr (Nat.zero_le _))
    simpa only [size_alloc] using this
  have kN : Bl W1 (W.heap.size + 1 + 1 + 1 + 1) #[.slice (some ⟨L, 0, none⟩) 1 c, .map (some (W.heap.size + 1 + 1 + 1))] 50 := by
    rw [hW1]; have := Bl.new ((((W.alloc (.cells #[.slice (some ⟨L, 0, none⟩) 1 c, .slice none 0 0] 31)).alloc (.cells #[.int .i64 2, .int .i64 i] 33)).alloc (.cells #[.int .i64 0, .int .i64 0] 25)).alloc (.map #[] 0)) #[.slice (some ⟨L, 0, none⟩) 1 c, .map (some (W.heap.size + 1 + 1 + 1))] 50
    simpa only [size_alloc] using this
  clear hW1 n0 n1 n2 n3 n4
  have kL := HL.out.kept o1 (.inr (Nat.zero_le _))
  have n0 := kL.cell (i := 0) rfl
  have n1 := kL.cell (i := 1) rfl
  have n2 := kL.cell (i := 2) rfl
  have n3 := kL.cell (i := 3) rfl
  have n4 := kL.cell (i := 4) rfl
  have o2 : Out 0 0 W1 (W1.alloc (.cells #[.int .i64 i, .int .i64 4, .slice a1 l1 c1, .slice a2 l2 c2, .slice a3 l3 c3] 42)) := (Out.refl _ _ _).alloc _
  have M2 := kM.kept o2 (.inr (Nat.zero_le _))
  have lk := mp_look true Tryd.underlying48 Tryd.underlying3 (zero_int _) M2 i
  simp only [Option.getD_none, Option.isSome_none, if_true] at lk
  obtain ⟨W3, hrun, M3, q3⟩ := mp_put Tryd.underlying48 Tryd.underlying3 M2 i (.int .i64 0)
  have q3' : Out (W.heap.size + 3) (W.heap.size + 4) W1 W3 := (o2.any _ _).trans q3
  have kN2 := kN.kept o2 (.inr (Nat.zero_le _))
  have e0 := kN2.cell (i := 0) rfl
  have e1 := kN2.cell (i := 1) rfl
  have e0' := kN.cell (i := 0) rfl
  have e1' := kN.cell (i := 1) rfl
  have kN3 := kN.kept q3' (.inr (by omega))
  have f0 := kN3.cell (i := 0) rfl
  have f1 := kN3.cell (i := 1) rfl
  have kV3 := kV.kept q3' (.inl (by omega))
  have v0 := kV3.cell (i := 0) rfl
  have v1 := kV3.cell (i := 1) rfl
  have kF3 := kF.kept q3' (.inl (by omega))
  have kL3 := kL.kept q3' (.inl (by omega))
  have o3 : Out 0 0 W W3 := o1.past q3' (by omega)
  have HV := hid_mk (value_large (W := W3) (T := 50) (d := .agg #[.slice (some ⟨L, 0, none⟩) 1 c, .map (some (W.heap.size + 1 + 1 + 1))]) (x := i) (i := i) (a1 := a1) (a2 := a2) (a3 := a3) (l1 := l1) (l2 := l2) (l3 := l3) (c1 := c1) (c2 := c2) (c3 := c3) HSM.out.1 HSM.out.2 hx (fun W5 o5 => ask_one ⟨_, _, _, rfl⟩ ⟨_, _, _, rfl⟩ ⟨_, _, _, rfl⟩ (fun W6 o6 => node_one (ra := 0) (la := 0) (ca := 0) (fa := 0) (lf := 0) (cf := 0) (ea := 0) (le := 0) (ce := 0) _ _ _ ⟨_, _, _, rfl⟩ ⟨_, _, _, rfl⟩ ⟨_, _, _, rfl⟩ (M3.kept (o5.trans o6) (.inr (Nat.zero_le _))) (if_pos rfl) (kL3.kept (o5.trans o6) (.inr (Nat.zero_le _))))))
  have HE := hid_mk (And.intro kF3 o3)
  clear kV kF kM kN kL M2 o2 q3 q3' kN2 kN3 kV3 kF3 kL3 o3 o1 M3
  rw [rounds_succ]
  go_wp2_with fail
  rw [rounds_succ]
  go_wp2_with (go_at_call 14; refine HV.out.mono ?_; rintro e w5 ⟨rfl, o5⟩; have f5 := HE.out.1.kept o5 (.inr (Nat.zero_le _)); have t0 := f5.cell (i := 0) rfl; have t1 := f5.cell (i := 1) rfl; have t2 := f5.frozen 0; have t3 := f5.frozen 1)
  exact retTF Tryd.results8 rfl rfl rfl ((f5.set 0 _).set 1 _) ⟨rfl, ((HE.out.2.trans o5).setCell (.inr (by simp; omega)) _).setCell (.inr (by simp; omega)) _⟩
end Go.Proofs.YtkgdignpjammbaaDoor
