/- package show: a thing that was met before -/
import Derived.Test.YtmfnkhonghemeaaDoorIid
import Derived.Test.YtmfnkhonghemeaaDoorIw
namespace Go.Proofs.YtmfnkhonghemeaaDoor
open Go.RowKit
set_option linter.unusedVariables false
set_option linter.unusedSimpArgs false

set_option maxRecDepth 100000 in
set_option maxHeartbeats 2000000 in
theorem thing_any {W : World} {p mb g cap K j : Nat} {hv : Value} {n x : Int} {f0 : Int → Option Value} (h : WK W p hv (.map (some mb)) (.slice (some ⟨g, 0, none⟩) K cap) n) (hm : MpAt W mb f0) (hf : f0 x = some (.int .i64 j)) (hj : (j : Int) < K) (hK : (K : Int) ≤ 1000) :
    Calls Tryd.prog 26 #[.pointer (some ⟨p, 0, none⟩), .agg #[.int .i64 2, .int .i64 x]] W fun e w' => e = .returned (.pointer (some ⟨g, j * 7, none⟩)) ∧ Out 0 0 W w' := by
  have o1 : Out 0 0 W (W.alloc (.cells #[.int .i64 2, .int .i64 x] 28)) := (Out.refl _ _ _).alloc _
  have kW := h.kept o1 (.inr (Nat.zero_le _))
  have p1 := kW.cell (i := 1) rfl
  have p2 := kW.cell (i := 2) rfl
  have kV := Bl.new W #[.int .i64 2, .int .i64 x] 28
  have x1 := kV.cell (i := 1) rfl
  have lk := mp_look (w := (W.alloc (.cells #[.int .i64 2, .int .i64 x] 28)).drew) false Tryd.underlying43 Tryd.underlying3 (zero_int _) (show MpAt (W.alloc (.cells #[.int .i64 2, .int .i64 x] 28)).drew mb f0 from hm.kept o1 (.inr (Nat.zero_le _))) x
  rw [hf] at lk
  simp only [Option.getD_some, Bool.false_eq_true, if_false] at lk
  have hl := h.lt
  have r1 := h.cell (i := 1) rfl
  have r2 := h.cell (i := 2) rfl
  clear hm hf kW kV h
  go_enter Tryd.func26, Tryd.ntmps26
  go_wp2_with fail
  go_region
  all_goals go_wp2
  all_goals go_ret
  all_goals exact ⟨rfl, o1.drew⟩
end Go.Proofs.YtmfnkhonghemeaaDoor
