/- which values are valid -/
import Derived.Test.YtghgpnadikjblabVc
namespace Go.Proofs.Ytghgpnadikjblab
open Go.ChangeShapes Go.WideShapes Go.ChangeAt Go.RowKit
set_option linter.unusedVariables false
set_option linter.unusedSimpArgs false

theorem val_cells {W : World} {g : Nat} {x y : Int} (h : W.heap[g]? = some (.cells #[.int .i64 x, .int .i64 y] 23 (0, 0))) :
    W.cell? ⟨g, 0, none⟩ = some (.int .i64 x) ∧ W.cell? ⟨g, 1, none⟩ = some (.int .i64 y) := by
  simp [World.cell?, h]
theorem kinds (k : Int) : k = 1 ∨ k = 2 ∨ k = 3 ∨ k = 4 ∨ ((k == 1) = false ∧ (k == 2) = false ∧ (k == 3) = false ∧ (k == 4) = false) := by
  simp; omega
theorem valid1 (n : Int) : validB 1 n = fitsB n := by unfold validB fitsB; simp
theorem valid2 (n : Int) : validB 2 n = (decide (0 ≤ n) && fitsB n) := by unfold validB fitsB; rw [Bool.eq_iff_iff]; simp; omega
theorem valid3 (n : Int) : validB 3 n = decide (0 ≤ n ∧ n ≤ 5) := by unfold validB; simp
theorem valid4 (n : Int) : validB 4 n = scalarB n := by unfold validB scalarB; simp
theorem valid5 (k n : Int) (h : (k == 1) = false ∧ (k == 2) = false ∧ (k == 3) = false ∧ (k == 4) = false) : validB k n = false := by
  unfold validB; simp at h ⊢; omega
set_option maxHeartbeats 1000000 in
theorem valid_any (k n : Int) (w : World) :
    Calls Try.prog 9 #[val k n] w fun e w' => e = .returned (.bool (validB k n)) ∧ Below w.heap.size w w' := by
  unfold val
  have h0 : Below w.heap.size w (w.alloc (.cells #[.int .i64 k, .int .i64 n] 23)) := (Below.refl _ _).alloc (Nat.le_refl _) _
  have hA := heap_alloc_new w (.cells #[.int .i64 k, .int .i64 n] 23)
  obtain ⟨x0, x1⟩ := val_cells hA
  clear hA
  rcases kinds k with rfl | rfl | rfl | rfl | hk
  · rw [valid1]
    go_enter Try.func9, Try.ntmps9
    go_wp2_with (go_at_call 16; refine calls_same (fixFits_any _ _) ?_)
    go_ret
    exact ⟨rfl, h0⟩
  · rw [valid2]
    by_cases hn : 0 ≤ n
    · simp only [hn, decide_true, Bool.true_and]
      go_enter Try.func9, Try.ntmps9
      go_wp2_with (go_at_call 16; refine calls_same (fixFits_any _ _) ?_)
      go_ret
      exact ⟨rfl, h0⟩
    · have hn' : n < 0 := by omega
      simp only [hn, decide_false, Bool.false_and]
      clear hn
      go_enter Try.func9, Try.ntmps9
      go_wp2_with fail
      go_ret
      exact ⟨rfl, h0⟩
  · rw [valid3]
    go_enter Try.func9, Try.ntmps9
    go_wp2_with fail
    all_goals go_ret
    all_goals refine ⟨ret_bool ?_, h0⟩
    all_goals (rw [Bool.eq_iff_iff]; simp; try omega)
  · rw [valid4]
    go_enter Try.func9, Try.ntmps9
    go_wp2_with (go_at_call 17; refine calls_same (isScalar_any _ _) ?_)
    go_ret
    exact ⟨rfl, h0⟩
  · rw [valid5 k n hk]
    obtain ⟨k1, k2, k3, k4⟩ := hk
    go_enter Try.func9, Try.ntmps9
    go_wp2_with fail
    go_ret
    exact ⟨rfl, h0⟩
end Go.Proofs.Ytghgpnadikjblab
