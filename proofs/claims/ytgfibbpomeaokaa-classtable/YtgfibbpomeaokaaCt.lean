/- the table, closed; the blocks side by side -/
import Derived.Test.YtgfibbpomeaokaaCs
import Derived.Deep.RegionHeld3
namespace Go.Proofs.Ytgfibbpomeaokaa
open Go.ChangeShapes Go.WideShapes Go.ChangeAt Go.RowKit
set_option linter.unusedVariables false
set_option linter.unusedSimpArgs false

def rowW : Obj := .cells #[.int .i64 2, .int .i64 4, .int .i64 6, .int .i64 8, .int .i64 12, .int .i64 16, .int .i64 20, .int .i64 32] 3
def rowB : Obj := .cells #[.int .i64 32, .int .i64 16, .int .i64 10, .int .i64 8, .int .i64 5, .int .i64 4, .int .i64 3, .int .i64 2] 3
theorem rowW_cell {W : World} {g : Nat} (h : W.heap[g]? = some rowW) (k : Nat) (hk : k < 8) : W.cell? ⟨g, k, none⟩ = some (.int .i64 (wordsV k)) := by
  have hi : k = 0 ∨ k = 1 ∨ k = 2 ∨ k = 3 ∨ k = 4 ∨ k = 5 ∨ k = 6 ∨ k = 7 := by omega
  rcases hi with rfl | rfl | rfl | rfl | rfl | rfl | rfl | rfl <;> simp [World.cell?, h, rowW] <;> rfl
theorem rowB_cell {W : World} {g : Nat} (h : W.heap[g]? = some rowB) (k : Nat) (hk : k < 8) : W.cell? ⟨g, k, none⟩ = some (.int .i64 (blocksV k)) := by
  have hi : k = 0 ∨ k = 1 ∨ k = 2 ∨ k = 3 ∨ k = 4 ∨ k = 5 ∨ k = 6 ∨ k = 7 := by omega
  rcases hi with rfl | rfl | rfl | rfl | rfl | rfl | rfl | rfl <;> simp [World.cell?, h, rowB] <;> rfl
theorem below_three {B : Nat} {a b c : World} (h : Below B a b) (k : Below b.heap.size b c) (hB : B ≤ b.heap.size) : Below B a c := h.trans (k.mono hB)
theorem cell_below {W : World} {p : Addr} {v : Value} (h : W.cell? p = some v) : p.block < W.heap.size := by
  by_cases hb : p.block < W.heap.size
  · exact hb
  · have : W.heap[p.block]? = none := by simp; omega
    simp [World.cell?, this] at h
theorem calls_tab {f : FuncId} {args : Array Value} {v : Value} {W w : World} {g k : Nat} {a b : Int} (h : Calls Try.prog f args w (fun e w' => e = .returned v ∧ Below w.heap.size w w'))
    (hS : w.cell? ⟨g, k, none⟩ = some (.int .i64 a) ∧ w.cell? ⟨g + 1, k, none⟩ = some (.int .i64 b) ∧ Below W.heap.size W w) :
    Calls Try.prog f args w (fun e w' => e = .returned v ∧ w'.cell? ⟨g, k, none⟩ = some (.int .i64 a) ∧ w'.cell? ⟨g + 1, k, none⟩ = some (.int .i64 b) ∧ Below W.heap.size W w') := by
  obtain ⟨h1, h2, hb⟩ := hS
  exact h.mono fun _ _ ⟨he, hg⟩ => ⟨he, by rw [hg.cell (p := ⟨g, k, none⟩) (cell_below h1)]; exact h1, by rw [hg.cell (p := ⟨g + 1, k, none⟩) (cell_below h2)]; exact h2, below_seq hb hg⟩
theorem two_rows (w : World) : ((w.alloc rowW).alloc rowB).heap[w.heap.size]? = some rowW ∧ ((w.alloc rowW).alloc rowB).heap[w.heap.size + 1]? = some rowB ∧ Below w.heap.size w ((w.alloc rowW).alloc rowB) := by
  have h0 := Below.refl w.heap.size w
  have h1 := h0.alloc (Nat.le_refl _) rowW
  have h2 := h1.alloc h1.size rowB
  have a1 := heap_alloc_new w rowW
  exact ⟨by rw [heap_alloc_old _ _ (Array.getElem?_eq_some_iff.1 a1).1]; exact a1, heap_alloc2_new _ _ _, h2⟩
set_option maxHeartbeats 800000 in
theorem table_any (w : World) : Calls Try.prog 6 #[] w fun e w' => e = .returned (.bool true) ∧ Below w.heap.size w w' := by
  obtain ⟨W2, hW2⟩ : ∃ W2, (w.alloc rowW).alloc rowB = W2 := ⟨_, rfl⟩
  have h2 := two_rows w
  rw [hW2] at h2
  obtain ⟨a1, a2, h2⟩ := h2
  have C1 := hid_mk (rowW_cell a1)
  have C2 := hid_mk (rowB_cell a2)
  have HH := hid_mk h2
  clear a1 a2 h2
  unfold rowW rowB at hW2
  go_enter Try.func6, Try.ntmps6
  go_wp2
  clear hW2
  have b0 := Below.refl W2.heap.size W2
  go_loopw [3] (fun i wr => ∃ k : Nat, k ≤ 8 ∧ i = .int .i64 k ∧ Below W2.heap.size W2 wr) (fun i _ => 8 - (intOf i).toNat)
  case atStart => exact ⟨0, by omega, by simp, b0⟩
  case round =>
    clear b0
    obtain ⟨k, hk, rfl, hB⟩ := hrel
    by_cases hk8 : k < 8
    · have hk8' : (k : Int) < 8 := by omega
      have c1 : wr.cell? ⟨w.heap.size, k, none⟩ = some (.int .i64 (wordsV k)) := by rw [hB.cell (p := ⟨w.heap.size, k, none⟩) (cell_below (C1.out k hk8))]; exact C1.out k hk8
      have c2 : wr.cell? ⟨w.heap.size + 1, k, none⟩ = some (.int .i64 (blocksV k)) := by rw [hB.cell (p := ⟨w.heap.size + 1, k, none⟩) (cell_below (C2.out k hk8))]; exact C2.out k hk8
      have HW := hid_mk (words_any k)
      have HB := hid_mk (blocks_any k)
      generalize wordsV k = x at *
      generalize blocksV k = y at *
      have ex : (x != x) = false := by simp
      have ey : (y != y) = false := by simp
      go_wp2_with fail
      go_region_held3 (fun w' => w'.cell? ⟨w.heap.size, k, none⟩ = some (.int .i64 x) ∧ w'.cell? ⟨w.heap.size + 1, k, none⟩ = some (.int .i64 y) ∧ Below W2.heap.size W2 w') (refine ⟨?_, ?_, ?_⟩ <;> first | assumption | (apply Below.drew; assumption))
        (first | (go_at_call 12; refine (calls_tab (HW.out _) (by assumption)).mono ?_; rintro e w3 ⟨rfl, y0, y1, y2⟩) | (go_at_call 13; refine (calls_tab (HB.out _) (by assumption)).mono ?_; rintro e w3 ⟨rfl, y0, y1, y2⟩))
      all_goals go_wp2
      all_goals go_roundw
      case rel => exact ⟨k + 1, by omega, by simp, y2⟩
      case measure => simp [intOf]; omega
    · have : k = 8 := by omega
      subst this
      have HW := hid_mk (words_at 8 0 rfl)
      have HB := hid_mk (blocks_at (-1) 0 rfl)
      go_wp2_with (first
        | (go_at_call 12; refine (calls_rel (HW.out _) (by assumption)).mono ?_; rintro e w1 ⟨rfl, hg⟩)
        | (go_at_call 13; refine (calls_rel (HB.out _) (by assumption)).mono ?_; rintro e w1 ⟨rfl, hg⟩))
      go_ret
      exact ⟨rfl, below_three HH.out (by assumption) HH.out.size⟩
end Go.Proofs.Ytgfibbpomeaokaa
