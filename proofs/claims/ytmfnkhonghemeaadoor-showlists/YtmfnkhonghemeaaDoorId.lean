/- package show: what the walk goes over -/
import Derived.Test.YtmfnkhonghemeaaDoorIr
namespace Go.Proofs.YtmfnkhonghemeaaDoor
open Go.RowKit
set_option linter.unusedVariables false
set_option linter.unusedSimpArgs false

theorem hmf : ∀ (fn : Fn) (first cap : Array Value) (w : World), (Instr.makeFunc fn first cap).run Tryd.prog w = .ok (.func fn first cap) w := fun _ _ _ _ => rfl
theorem back_any (v : Value) (w : World) (hv : ∃ a c, v = .slice a 0 c) :
    Calls Tryd.prog 17 #[v] w fun e w' => e = .returned (.func (.func 27) #[] #[.pointer (some ⟨w.heap.size, 0, none⟩)]) ∧ w' = w.alloc (.cells #[v] 24) := by
  obtain ⟨a, c, rfl⟩ := hv
  have h1 := hmf
  go_enter Tryd.func17, Tryd.ntmps17
  go_wp2
  go_ret
  exact ⟨rfl, rfl⟩
theorem back1_none {W : World} {g c : Nat} {a : Option Addr} {y : Value} (hg : Bl W g #[.slice a 0 c] 24) :
    Calls Tryd.prog 27 #[y, .pointer (some ⟨g, 0, none⟩)] W fun e w' => (∃ v, e = .returned v) ∧ w' = W := by
  have c0 := hg.cell (i := 0) rfl
  go_enter Tryd.func27, Tryd.ntmps27
  go_wp2
  refine wp_loop_once ?_
  go_wp2
  exact bodyPost_end (results_none Tryd.results27 _ _ _) rfl ⟨⟨_, rfl⟩, rfl⟩
theorem wpIn_named {F : Fence} {n : Nat} {P : Program} {c : Code} {Q : Exit → Act → World → Prop} {a : Act} {w : World} (h : ∀ W1, W1 = w → c.wpIn F n P Q a W1) : c.wpIn F n P Q a w := h w rfl
theorem rounds_named {F : Fence} {n m : Nat} {P : Program} {c : Code} {Q : Exit → Act → World → Prop} {a : Act} {w : World} (h : ∀ W1, W1 = w → Code.roundsIn F n P c Q m a W1) : Code.roundsIn F n P c Q m a w := h w rfl

set_option maxHeartbeats 2000000 in
theorem over_one {W : World} {lo hi p : Nat} {k x : Int} (hp : lo ≤ p ∧ p < hi ∧ hi ≤ W.heap.size) (R : World → World → Prop)
    (hm : ∀ W1, Out 0 0 W W1 → Calls Tryd.prog 16 #[.pointer (some ⟨p, 0, none⟩), .agg #[.int .i64 k, .int .i64 x]] W1 fun e w' =>
      (∃ a c, e = .returned (.tuple #[.slice a 0 c, .agg #[.int .i64 0, .int .i64 0]])) ∧ (∃ hv mv tv n, WK w' p hv mv tv n ∧ n ≤ 500) ∧ R W1 w' ∧ Out lo hi W1 w')
    (hR : ∀ W1 a b, R W1 a → W1.heap.size ≤ a.heap.size → Out W.heap.size W1.heap.size a b → R W1 b) :
    Calls Tryd.prog 12 #[.pointer (some ⟨p, 0, none⟩), .agg #[.int .i64 k, .int .i64 x]] W fun e w' => e = .returned (.agg #[.int .i64 0, .int .i64 0]) ∧ (∃ W1, Out 0 0 W W1 ∧ R W1 w') ∧ Out lo hi W w' := by
  have HM := hid_mk hm
  have HR := hid_mk hR
  have HP := hid_mk hp
  clear hm hR hp
  refine (callsIn_wide (n := 0)).1 ?_
  refine callsIn_of_wp_marks Tryd.func12 rfl trivial ?_ rfl
  simp only [Tryd.ntmps12, List.size_toArray, List.length_cons, List.length_nil, Nat.reduceAdd, Nat.reduceSub, Array.replicate_succ, Array.replicate_zero, List.push_toArray, List.append_toArray, List.nil_append, List.cons_append]
  gi_wp2_with fail
  refine wpIn_loop_rounds 2 ?_
  refine rounds_named (fun W1 hW1 => ?_)
  have hs1 : W1.heap.size = W.heap.size + 4 := by rw [hW1]; simp only [size_alloc]
  have o1 : Out 0 0 W W1 := by rw [hW1]; exact ((((Out.refl _ _ _).alloc _).alloc _).alloc _).alloc _
  have kS : Bl W1 (W.heap.size + 1 + 1 + 1) #[.slice (some ⟨W.heap.size + 1 + 1, 0, none⟩) 1 1] 24 := by
    rw [hW1]; have := Bl.new (((W.alloc (.cells #[.int .i64 k, .int .i64 x] 28)).alloc (.cells #[.int .i64 0, .int .i64 0] 38)).alloc (.cells #[.int .i64 k, .int .i64 x] 28)) #[.slice (some ⟨W.heap.size + 1 + 1, 0, none⟩) 1 1] 24
    simpa only [size_alloc] using this
  have kV : Bl W1 (W.heap.size + 1 + 1) #[.int .i64 k, .int .i64 x] 28 := by
    rw [hW1]; have := (Bl.new ((W.alloc (.cells #[.int .i64 k, .int .i64 x] 28)).alloc (.cells #[.int .i64 0, .int .i64 0] 38)) #[.int .i64 k, .int .i64 x] 28).alloc (.cells #[.slice (some ⟨W.heap.size + 1 + 1, 0, none⟩) 1 1] 24)
    simpa only [size_alloc] using this
  have kF : Bl W1 (W.heap.size + 1) #[.int .i64 0, .int .i64 0] 38 := by
    rw [hW1]; have := ((Bl.new (W.alloc (.cells #[.int .i64 k, .int .i64 x] 28)) #[.int .i64 0, .int .i64 0] 38).alloc (.cells #[.int .i64 k, .int .i64 x] 28)).alloc (.cells #[.slice (some ⟨W.heap.size + 1 + 1, 0, none⟩) 1 1] 24)
    simpa only [size_alloc] using this
  clear hW1
  have s0 := kS.cell (i := 0) rfl
  have v0 := kV.cell (i := 0) rfl
  have v1 := kV.cell (i := 1) rfl
  have HO1 := hid_mk o1
  have HS1 := hid_mk hs1
  have HK := hid_mk (And.intro kS (And.intro kV kF))
  clear o1 hs1 kS kV kF
  rw [roundsIn_succ]
  gi_wp2_with fail
  refine ⟨trivial, rfl, ?_⟩
  refine (callsIn_wide.2 (HM.out _ HO1.out)).mono ?_
  rintro e w2 ⟨⟨a2, c2, rfl⟩, ⟨hv, mv, tv, n2, hWK, hn2⟩, hR2, hO2⟩
  have hd : decide (500 < n2) = false := by simp; omega
  have HWK : Hid (WK (w2.alloc (.cells #[.int .i64 0, .int .i64 0] 38)) p hv mv tv n2) := Bl.alloc hWK _
  have kS2 : Bl (w2.alloc (.cells #[.int .i64 0, .int .i64 0] 38)) (W.heap.size + 1 + 1 + 1) #[.slice (some ⟨W.heap.size + 1 + 1, 0, none⟩) 1 1] 24 := (HK.out.1.kept hO2 (.inr (by have := HP.out; omega))).alloc _
  have t0 := kS2.cell (i := 0) rfl
  have t1 := kS2.frozen 0
  have HKS2 := hid_mk kS2
  have HR2 := hid_mk (And.intro hR2 hO2)
  have kN := Bl.new w2 #[.int .i64 0, .int .i64 0] 38
  have n0 := kN.cell (i := 0) rfl
  clear s0 v0 v1 hWK hn2 kS2 hR2 hO2 kN
  gi_wp2_with (first
    | (refine ⟨trivial, rfl, ?_⟩; gi_at_call 13; refine (callsIn_wide.2 (tooLarge_at HWK.out hd)).mono ?_; rintro e w3 ⟨rfl, rfl⟩)
    | (refine ⟨trivial, rfl, ?_⟩; gi_at_call 17; refine (callsIn_wide.2 (back_any _ _ ⟨_, _, rfl⟩)).mono ?_; rintro e w4 ⟨rfl, rfl⟩))
  refine wpIn_named (fun W5 hW5 => ?_)
  have hs2 : W.heap.size + 4 ≤ w2.heap.size := by have := HR2.out.2.size; have := HS1.out; omega
  have o5 : Out W.heap.size (W.heap.size + 4) w2 W5 := by rw [hW5]; exact (((Out.refl _ _ _).alloc _).setCell (.inl ⟨by simp; omega, by simp⟩) _).alloc _
  have kS5 : Bl W5 (W.heap.size + 1 + 1 + 1) #[.slice (some ⟨W.heap.size + 1 + 1, 0, none⟩) 0 1] 24 := by rw [hW5]; exact (HKS2.out.set 0 _).alloc _
  have kB5 : Bl W5 (w2.heap.size + 1) #[.slice a2 0 c2] 24 := by rw [hW5]; have := Bl.new ((w2.alloc (.cells #[.int .i64 0, .int .i64 0] 38)).setCell ⟨W.heap.size + 1 + 1 + 1, 0, none⟩ (.slice (some ⟨W.heap.size + 1 + 1, 0, none⟩) 0 1)) #[.slice a2 0 c2] 24; simpa only [size_alloc, size_set] using this
  have kF2 : Bl w2 (W.heap.size + 1) #[.int .i64 0, .int .i64 0] 38 := HK.out.2.2.kept HR2.out.2 (.inr (by have := HP.out; omega))
  have kF5 : Bl W5 (W.heap.size + 1) #[.int .i64 0, .int .i64 0] 38 := by rw [hW5]; exact ((kF2.alloc _).other (by show W.heap.size + 1 + 1 + 1 ≠ W.heap.size + 1; omega) _).alloc _
  have hs5 : W5.heap.size = w2.heap.size + 2 := by rw [hW5]; simp only [size_alloc, size_set]
  have HO5 := hid_mk o5
  have HK5 := hid_mk (And.intro kS5 (And.intro kB5 kF5))
  have HS5 := hid_mk (And.intro hs2 hs5)
  clear hW5 o5 kS5 kB5 kF5 kF2 hs2 hs5 t0 t1 n0 hd HWK HKS2 HK
  refine range_any (gf := 27) (lb := #[.pointer (some ⟨w2.heap.size + 1, 0, none⟩)]) rfl (enters_of Tryd.func27 (by kernel_rfl) rfl) (fun W => Out 0 0 W5 W) (fun _ _ => False) ?H ?done (fun _ _ _ h _ _ => h.elim)
  case H =>
    intro rec hrec W6 hW6
    have o6 : Out 0 0 W5 W6 := by rw [hW6]; exact ((Out.refl _ _ _).alloc _).alloc _
    have d6 : W6.heap[W5.heap.size]? = some (.deferred (some [])) := by rw [hW6, heap_alloc_old _ _ (by rw [size_alloc]; omega)]; exact heap_alloc_new _ _
    have l6 : W6.heap[W5.heap.size + 1]? = some (.loop (rec .ready none)) := by rw [hW6, ← size_alloc W5 (.deferred (some []))]; exact heap_alloc_new _ _
    refine (back1_none (HK5.out.2.1.kept o6 (.inr (Nat.zero_le _)))).mono ?_
    rintro e w7 ⟨hv7, rfl⟩
    exact ⟨hv7, d6, .inl ⟨o6, l6⟩⟩
  case done =>
    intro W6 W7 o6 o7 d7
    have o57 : Out 0 0 W5 W7 := o6.past o7 (Nat.le_succ _)
    have kS7 := HK5.out.1.kept o57 (.inr (Nat.zero_le _))
    have kF7 := HK5.out.2.2.kept o57 (.inr (Nat.zero_le _))
    have s0 := kS7.cell (i := 0) rfl
    have f0 := kF7.cell (i := 0) rfl
    have f1 := kF7.cell (i := 1) rfl
    have f2 := kF7.frozen 0
    have f3 := kF7.frozen 1
    have HKF7 := hid_mk kF7
    have HO7 := hid_mk o57
    have HD7 := hid_mk d7
    clear o6 o7 d7 kS7 kF7 o57
    gi_wp2
    rw [roundsIn_succ]
    gi_wp2
    have hP := HP.out
    have hS := HS5.out
    have h1 := HS1.out
    have hl7 : W5.heap.size ≤ W7.heap.size := HO7.out.size
    have kF8 := (HKF7.out.set 0 (.int .i64 0)).set 1 (.int .i64 0)
    have o8 : Out W.heap.size (W.heap.size + 4) w2 ((W7.setCell ⟨W.heap.size + 1, 0, none⟩ (.int .i64 0)).setCell ⟨W.heap.size + 1, 1, none⟩ (.int .i64 0)) :=
      ((HO5.out.trans (HO7.out.any _ _)).setCell (.inl ⟨by simp, by simp⟩) _).setCell (.inl ⟨by simp, by simp⟩) _
    have d8 : ((W7.setCell ⟨W.heap.size + 1, 0, none⟩ (.int .i64 0)).setCell ⟨W.heap.size + 1, 1, none⟩ (.int .i64 0)).heap[W5.heap.size]? = some (.deferred (some [])) :=
      (((Out.refl (W.heap.size + 1) (W.heap.size + 2) W7).setCell (.inl ⟨by simp, by simp⟩) _).setCell (.inl ⟨by simp, by simp⟩) _).heap HD7.out (.inr (by omega))
    have o9 := o8.past (out_putObj _ W5.heap.size (.deferred none)) (by omega)
    refine ⟨by simp, .inl ⟨_, _, rfl, run_takeDeferred d8, ?_⟩⟩
    refine ⟨_, results_cell_row Tryd.results12 _ _ (W.heap.size + 1) 38 _ (0, 0) _ rfl (kF8.kept (out_putObj _ _ _) (by omega)) Tryd.underlying38 rfl (infoF 0 0), rfl, ⟨W1, HO1.out, ?_⟩, ?_⟩
    · exact HR.out W1 w2 _ HR2.out.1 (by omega) (by rw [h1]; exact o9)
    · exact ((HO1.out.any lo hi).trans HR2.out.2).past o9 (Nat.le_refl _)
end Go.Proofs.YtmfnkhonghemeaaDoor
