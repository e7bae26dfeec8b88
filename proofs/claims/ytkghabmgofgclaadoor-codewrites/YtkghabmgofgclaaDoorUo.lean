/- package code: what a panic has carried -/
import Derived.Test.YtkghabmgofgclaaDoorUn
namespace Go.Proofs.YtkghabmgofgclaaDoor
open Go.RowKit
set_option linter.unusedVariables false
set_option linter.unusedSimpArgs false

theorem caught_nil (w : World) : Calls Tryd.prog 38 #[.nilIface] w fun x w' => x = .returned (.tuple #[.int .i64 0, .int .i64 0]) ∧ w' = w := by
  go_enter Tryd.func38, Tryd.ntmps38
  go_wp2
  go_ret2
  exact ⟨rfl, rfl⟩
set_option maxRecDepth 100000 in
set_option maxHeartbeats 1000000 in
theorem caught_stop (e a : Int) (w : World) (hT : Ty w) : Calls Tryd.prog 38 #[.iface 113 (.agg #[.int .i64 e, .int .i64 a])] w fun x w' => x = .returned (.tuple #[.int .i64 a, .int .i64 e]) ∧ Out 0 0 w w' := by
  have h1 : ∀ W, (binOp .eql 20 (.iface 113 (.agg #[.int .i64 e, .int .i64 a])) .nilIface).run Tryd.prog W = .ok (.bool false) W := fun W => by kernel_rfl
  have h2 : ∀ W, (Instr.typeAssert (.iface 113 (.agg #[.int .i64 e, .int .i64 a])) 20 110 true).run Tryd.prog W = .ok (.tuple #[.iface 113 (.agg #[.int .i64 e, .int .i64 a]), .bool true]) W := fun W => by kernel_rfl
  have HA := hid_mk (As_hit e a (hT.out ((Out.refl 0 0 w).alloc (.cells #[.int .i64 0, .int .i64 0] 113)) (.inr rfl)) (Bl.new w #[.int .i64 0, .int .i64 0] 113))
  clear hT
  go_enter Tryd.func38, Tryd.ntmps38
  go_wp2_with (go_at_call 60; refine HA.out.mono ?_; rintro ev w2 ⟨rfl, hb2, ho2⟩; have d0 := hb2.cell (i := 0) rfl; have d1 := hb2.cell (i := 1) rfl; have HO2 := hid_mk ho2; clear ho2 hb2)
  go_region
  go_wp2
  go_ret2
  exact ⟨rfl, (((Out.refl 0 0 w).alloc _).past HO2.out (Nat.le_refl _)).drew⟩
theorem setE {w : World} {g : Nat} {x : Int} (hg : Bl w g #[.int .i64 x] 49) (y : Int) : Bl (w.setCell ⟨g, 0, none⟩ (.int .i64 y)) g #[.int .i64 y] 49 ∧ Out g (g + 1) w (w.setCell ⟨g, 0, none⟩ (.int .i64 y)) :=
  ⟨hg.set 0 _, (Out.refl g (g + 1) w).setCell (p := ⟨g, 0, none⟩) (.inl ⟨Nat.le_refl _, Nat.lt_succ_self _⟩) _⟩
theorem catchW_idle {g : Nat} {x : Int} {w : World} (hg : Bl w g #[.int .i64 x] 49) :
    CallsD Tryd.prog 37 #[.pointer (some ⟨g, 0, none⟩)] .returning w fun e u' w' => e = .returned (.tuple #[]) ∧ u' = .returning ∧ Bl w' g #[.int .i64 0] 49 ∧ Out g (g + 1) w w' := by
  refine callsD_of_wpS Tryd.func37 rfl fun c₀ cs hu => ?_
  apply wpS_region
  simp [wpOpsS, go_sem, recoverD, hu, Tryd.ntmps37, Exit.thenS]
  refine calls_same (caught_nil w) ?_
  have a1 := hg.cell (i := 0) rfl
  have a2 := hg.frozen 0
  have h2 := setE hg 0
  simp [go_sem, storeCells, a1, a2, bodyPostS, results, Tryd.results37]
  cases c₀
  simp_all
theorem catchW_stop {g : Nat} {x e a : Int} {older : List PanicEntry} {w : World} (hT : Ty w) (hg : Bl w g #[.int .i64 x] 49) :
    CallsD Tryd.prog 37 #[.pointer (some ⟨g, 0, none⟩)] (.panicking (stopP e a :: older)) w fun e' u' w' => e' = .returned (.tuple #[]) ∧ u' = .panicking ({ v := .iface 113 (.agg #[.int .i64 e, .int .i64 a]), recovered := true } :: older) ∧ Bl w' g #[.int .i64 e] 49 ∧ Out g (g + 1) w w' := by
  refine callsD_of_wpS Tryd.func37 rfl fun c₀ cs hu => ?_
  apply wpS_region
  unfold stopP at hu
  simp [wpOpsS, go_sem, recoverD, hu, Tryd.ntmps37, Exit.thenS]
  refine (caught_stop e a w hT).mono ?_
  rintro e' w1 ⟨rfl, o1⟩
  have h1 := hg.kept o1 (.inr (Nat.zero_le _))
  have a1 := h1.cell (i := 0) rfl
  have a2 := h1.frozen 0
  have h2 := setE h1 e
  have h3 := (o1.any g (g + 1)).trans h2.2
  simp [go_sem, storeCells, a1, a2, bodyPostS, results, Tryd.results37]
  exact ⟨h2.1, h3⟩
end Go.Proofs.YtkghabmgofgclaaDoor
