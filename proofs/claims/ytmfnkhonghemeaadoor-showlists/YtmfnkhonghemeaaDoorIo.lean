/- package show: ask -/
import Derived.Test.YtmfnkhonghemeaaDoorIn
import Derived.Defers
import Derived.Recover
import Derived.WalkSmall
namespace Go.Proofs.YtmfnkhonghemeaaDoor
open Go.RowKit
set_option linter.unusedVariables false
set_option linter.unusedSimpArgs false

theorem leaves_ret {P : Program} {fn : Func} {t : Array Value} {R : Ending → World → Prop} {w : World} {v : Value} (h : (results fn t).run P w = .ok v w) (hR : R (.returned v) w) : Leaves P fn t R [] .returning w := ⟨v, h, hR⟩
theorem nil_neq (w : World) : (binOp .neq 20 .nilIface .nilIface).run Tryd.prog w = .ok (.bool false) w := by kernel_rfl
theorem method_node (d : Value) (w : World) : (method 274 45 d "Node").run Tryd.prog w = .ok (110, d) w := by kernel_rfl
theorem ask1_idle {a b : Value} {w : World} :
    CallsD Tryd.prog 46 #[a, b] .returning w fun e u' w' => e = .returned (.tuple #[]) ∧ u' = .returning ∧ w' = w := by
  refine callsD_of_wpS Tryd.func46 rfl fun c₀ cs hu => ?_
  apply wpS_seq
  apply wpS_region
  simp [wpOpsS, go_sem, recoverD, hu, Tryd.ntmps46, Exit.thenS, nil_neq]
  refine wpS_cond (t := false) (by simp [Act.eval, Array.replicate]) ?_
  simp only [Bool.false_eq_true, if_false]
  refine wpS_of_wp (wp_skip ?_)
  cases c₀
  simp_all [bodyPostS, results, Tryd.results46]
set_option maxRecDepth 100000 in
set_option maxHeartbeats 2000000 in
theorem ask_one {W : World} {d : Value} {x i k : Int} {r f e : Value} (hr : ∃ a l c, r = .slice a l c) (hf : ∃ a l c, f = .slice a l c) (he : ∃ a l c, e = .slice a l c)
    (hN : ∀ W1, Out 0 0 W W1 → Calls Tryd.prog 110 #[d, .agg #[.int .i64 2, .int .i64 x]] W1 fun e' w' => e' = .returned (.tuple #[.agg #[.int .i64 i, .int .i64 k, r, f, e], .agg #[.int .i64 0, .int .i64 0]]) ∧ Out 0 0 W1 w') :
    Calls Tryd.prog 36 #[.iface 45 d, .agg #[.int .i64 2, .int .i64 x]] W fun e' w' => e' = .returned (.tuple #[.agg #[.int .i64 i, .int .i64 k, r, f, e], .agg #[.int .i64 0, .int .i64 0]]) ∧ Out 0 0 W w' := by
  obtain ⟨a1, l1, c1, rfl⟩ := hr
  obtain ⟨a2, l2, c2, rfl⟩ := hf
  obtain ⟨a3, l3, c3, rfl⟩ := he
  have hmf := hmf
  have hmt := method_node d
  have HN := hid_mk hN
  have o1 : Out 0 0 W (((W.alloc (.cells #[.int .i64 2, .int .i64 x] 28)).alloc (.cells #[.int .i64 0, .int .i64 0, .slice none 0 0, .slice none 0 0, .slice none 0 0] 34)).alloc (.cells #[.int .i64 0, .int .i64 0] 38)) := (((Out.refl _ _ _).alloc _).alloc _).alloc _
  have kN : Bl (((W.alloc (.cells #[.int .i64 2, .int .i64 x] 28)).alloc (.cells #[.int .i64 0, .int .i64 0, .slice none 0 0, .slice none 0 0, .slice none 0 0] 34)).alloc (.cells #[.int .i64 0, .int .i64 0] 38)) (W.heap.size + 1) #[.int .i64 0, .int .i64 0, .slice none 0 0, .slice none 0 0, .slice none 0 0] 34 := (size_alloc W (.cells #[.int .i64 2, .int .i64 x] 28) ▸ Bl.new (W.alloc (.cells #[.int .i64 2, .int .i64 x] 28)) _ _ : Bl _ _ _ _).alloc _
  have kF : Bl (((W.alloc (.cells #[.int .i64 2, .int .i64 x] 28)).alloc (.cells #[.int .i64 0, .int .i64 0, .slice none 0 0, .slice none 0 0, .slice none 0 0] 34)).alloc (.cells #[.int .i64 0, .int .i64 0] 38)) (W.heap.size + 1 + 1) #[.int .i64 0, .int .i64 0] 38 := by
    have := Bl.new ((W.alloc (.cells #[.int .i64 2, .int .i64 x] 28)).alloc (.cells #[.int .i64 0, .int .i64 0, .slice none 0 0, .slice none 0 0, .slice none 0 0] 34)) #[.int .i64 0, .int .i64 0] 38
    simpa only [size_alloc] using this
  have HO := hid_mk o1
  have HK := hid_mk (And.intro kN kF)
  clear hN o1 kN kF
  go_enter_defers Tryd.func36, Tryd.ntmps36
  go_wp2_with (go_at_call 110; refine (HN.out _ HO.out).mono ?_; rintro e w2 ⟨rfl, o2⟩; have n2 := HK.out.1.kept o2 (.inr (Nat.zero_le _)); have f2 := HK.out.2.kept o2 (.inr (Nat.zero_le _)); have y0 := n2.cell (i := 0) rfl; have y1 := n2.cell (i := 1) rfl; have y2 := n2.cell (i := 2) rfl; have y3 := n2.cell (i := 3) rfl; have y4 := n2.cell (i := 4) rfl; have z0 := n2.frozen 0; have z1 := n2.frozen 1; have z2 := n2.frozen 2; have z3 := n2.frozen 3; have z4 := n2.frozen 4; have t0 := f2.cell (i := 0) rfl; have t1 := f2.cell (i := 1) rfl; have t2 := f2.frozen 0; have t3 := f2.frozen 1)
  have HO2 := hid_mk (HO.out.trans o2)
  have kN := (((((((n2.set 0 (.int .i64 i)).set 1 (.int .i64 k)).set 2 (.slice a1 l1 c1)).set 3 (.slice a2 l2 c2)).set 4 (.slice a3 l3 c3)).other (q := ⟨W.heap.size + 1 + 1, 0, none⟩) (Nat.succ_ne_self _) (.int .i64 0)).other (q := ⟨W.heap.size + 1 + 1, 1, none⟩) (Nat.succ_ne_self _) (.int .i64 0))
  have kF := ((((((f2.other (q := ⟨W.heap.size + 1, 0, none⟩) (Nat.succ_ne_self _).symm (.int .i64 i)).other (q := ⟨W.heap.size + 1, 1, none⟩) (Nat.succ_ne_self _).symm (.int .i64 k)).other (q := ⟨W.heap.size + 1, 2, none⟩) (Nat.succ_ne_self _).symm (.slice a1 l1 c1)).other (q := ⟨W.heap.size + 1, 3, none⟩) (Nat.succ_ne_self _).symm (.slice a2 l2 c2)).other (q := ⟨W.heap.size + 1, 4, none⟩) (Nat.succ_ne_self _).symm (.slice a3 l3 c3)).set 0 (.int .i64 0)).set 1 (.int .i64 0)
  refine leaves_cons (f := 46) (args := #[.pointer (some ⟨W.heap.size + 1, 0, none⟩), .pointer (some ⟨W.heap.size + 1 + 1, 0, none⟩)]) (by simp) (by simp [go_sem]) ?_
  refine ask1_idle.mono ?_
  rintro e u' w9 ⟨rfl, rfl, rfl⟩
  exact leaves_ret (results_two Tryd.results36 rfl rfl (load_nd kN) (load_flt kF)) ⟨rfl, ((((((HO2.out.setCell (.inr (Nat.le_succ _)) _).setCell (.inr (Nat.le_succ _)) _).setCell (.inr (Nat.le_succ _)) _).setCell (.inr (Nat.le_succ _)) _).setCell (.inr (Nat.le_succ _)) _).setCell (.inr (Nat.le_add_right _ 2)) _).setCell (.inr (Nat.le_add_right _ 2)) _⟩
end Go.Proofs.YtmfnkhonghemeaaDoor
