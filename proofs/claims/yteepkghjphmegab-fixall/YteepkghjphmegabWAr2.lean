/- the walks of Ar2 -/
import Derived.Test.YteepkghjphmegabWAr
namespace Go.Proofs.Yteepkghjphmegab
open Go.ChangeShapes Go.WideShapes Go.ChangeAt Go.RowKit
set_option linter.unusedVariables false
set_option linter.unusedSimpArgs false

set_option maxHeartbeats 1000000 in
theorem refPlus_any (a b : Int) (w : World) :
    Calls Try.prog 65 #[.agg (arr (bit a)), .agg (arr (bit b))] w fun e w' => e = .returned (.agg (arr (bit (a + b)))) ∧ Below w.heap.size w w' := by
  go_enter Try.func65, Try.ntmps65
  go_wp2
  simp only [← arr_zero]
  have hA := ((((Blk.new w (bit a)).alloc (.cells (arr (bit b)) 55)).alloc (.cells (arr (fun _ => 0)) 55)).alloc (.cells (arr (fun _ => 0)) 55))
  have hB := (((Blk.new (w.alloc (.cells (arr (bit a)) 55)) (bit b)).alloc (.cells (arr (fun _ => 0)) 55)).alloc (.cells (arr (fun _ => 0)) 55))
  have hC := ((Blk.new ((w.alloc (.cells (arr (bit a)) 55)).alloc (.cells (arr (bit b)) 55)) (fun _ => 0)).alloc (.cells (arr (fun _ => 0)) 55))
  have hD := (Blk.new (((w.alloc (.cells (arr (bit a)) 55)).alloc (.cells (arr (bit b)) 55)).alloc (.cells (arr (fun _ => 0)) 55)) (fun _ => 0))
  have hW : Below w.heap.size w ((((w.alloc (.cells (arr (bit a)) 55)).alloc (.cells (arr (bit b)) 55)).alloc (.cells (arr (fun _ => 0)) 55)).alloc (.cells (arr (fun _ => 0)) 55)) :=
    ((((Below.refl _ _).alloc (by simp) _).alloc (by simp) _).alloc (by simp; omega) _).alloc (by simp; omega) _
  simp at hA hB hC hD
  go_loopw [6, 7] (fun c i wr => ∃ k : Nat, k ≤ 61 ∧ i = .int .i64 k ∧ c = .int .i64 (carry a b k) ∧ Blk wr w.heap.size (bit a) ∧ Blk wr (w.heap.size + 1) (bit b) ∧ Blk wr (w.heap.size + 1 + 1) (fun _ => 0) ∧ Blk wr (w.heap.size + 1 + 1 + 1) (mix k (bit (a + b)) (fun _ => 0)) ∧ Below w.heap.size w wr) (fun _ i _ => 61 - (intOf i).toNat)
  case atStart => exact ⟨0, by omega, rfl, by rw [carry_zero], hA, hB, hC, hD.congr (fun i _ => (mix_zero (bit (a + b)) (fun _ => 0) i).symm), hW⟩
  case round =>
    clear hA hB hC hD hW
    obtain ⟨k, hk, rfl, rfl, hA, hB, hC, hD, hW⟩ := hrel
    by_cases hlt : k < 61
    · have cA := hA.cell hlt
      have cB := hB.cell hlt
      have cD := hD.cell hlt
      have fD := hD.frozen k
      have ba := bit_01 a k
      have bb := bit_01 b k
      have bc := carry_01 a b k
      obtain ⟨ba0, ba1⟩ := ba
      obtain ⟨bb0, bb1⟩ := bb
      obtain ⟨bc0, bc1⟩ := bc
      have kb : (k : Int) < 61 := by omega
      have kb0 : (0 : Int) ≤ (k : Int) := by omega
      go_wp2_with fail
      go_quiet (fail)
      go_wp2
      go_roundw
      case rel => exact ⟨k + 1, by omega, by go_num, congrArg (Value.int .i64) (carry_succ a b k), (hA.drewN _).setOther (by simp <;> omega) _, (hB.drewN _).setOther (by simp <;> omega) _, (hC.drewN _).setOther (by simp <;> omega) _, ((hD.drewN _).set k _).congr (fun i _ => mix_step k _ _ _ (bit_add a b k) i), (below_drewN hW _).setCell (by simp; omega) _⟩
      case measure => simp [intOf]; omega
    · go_wp2_with (first | (refine load61 rfl (.tmp 5) rfl _ rfl _ hD ?_) | (refine store61 rfl (.tmp 4) (.tmp 28) rfl _ rfl _ rfl _ hC ?_))
      refine ret61 Try.results65 rfl rfl (hC.setRow _) ⟨?_, below_setRow' hW (by omega) _⟩
      rw [arr_congr (f := mix k (bit (a + b)) (fun _ => 0)) (g := bit (a + b))]
      intro i hi
      have : k = 61 := by omega
      subst this; exact mix_all _ _ i hi
end Go.Proofs.Yteepkghjphmegab
