/- one ask of a script -/
import Derived.Test.YtghgpnadikjblaaVl
namespace Go.Proofs.Ytghgpnadikjblaa
open Go.ChangeShapes Go.WideShapes Go.ChangeAt Go.RowKit
set_option linter.unusedVariables false
set_option linter.unusedSimpArgs false

theorem lawLinks_any (a0 : Int) (w : World) : Calls Try.prog 7 #[.int .i64 a0] w fun e w' => e = .returned (.bool true) ∧ Below w.heap.size w w' := by
  have b0 := Below.refl w.heap.size w
  have hl : -9223372036854775808 ≤ linkV a0 ∧ linkV a0 ≤ 9223372036854775807 := by unfold linkV nextB; split <;> simp_all <;> omega
  obtain ⟨l1, l2⟩ := hl
  go_enter Try.func7, Try.ntmps7
  go_wp2_with (first
    | (go_at_call 9; refine (calls_rel (alive_any _) (by assumption)).mono ?_; rintro e w1 ⟨rfl, hg⟩)
    | (go_at_call 15; refine calls_same (link_any _ _) ?_)
    | (go_at_call 16; refine calls_same (refLink_any _ _) ?_)
    | (go_at_call 12; refine (calls_rel (lawRead_any _ _ l1 l2) (by assumption)).mono ?_; rintro e w1 ⟨rfl, hg⟩))
  all_goals go_ret
  all_goals exact ⟨rfl, by assumption⟩

def askCells (k n a b c d : Int) : Array Value := #[.int .i64 k, .int .i64 n, .int .i64 a, .int .i64 b, .int .i64 c, .int .i64 d]
theorem ask_cells {W : World} {g : Nat} {k n a b c d : Int} (h : W.heap[g]? = some (.cells #[.int .i64 k, .int .i64 n, .int .i64 a, .int .i64 b, .int .i64 c, .int .i64 d] 32 (0, 0))) :
    W.cell? ⟨g, 0, none⟩ = some (.int .i64 k) ∧ W.cell? ⟨g, 1, none⟩ = some (.int .i64 n) ∧ W.cell? ⟨g, 2, none⟩ = some (.int .i64 a) ∧ W.cell? ⟨g, 3, none⟩ = some (.int .i64 b) ∧ W.cell? ⟨g, 4, none⟩ = some (.int .i64 c) ∧ W.cell? ⟨g, 5, none⟩ = some (.int .i64 d) := by
  simp [World.cell?, h]
theorem below_two {B : Nat} {a b c : World} (h : Below B a b) (k : Below b.heap.size b c) (hB : B ≤ b.heap.size) : Below B a c := h.trans (k.mono hB)
set_option maxHeartbeats 2000000 in
theorem asked_of (k n a b c d : Int) (w : World) (i1 : -9223372036854775808 ≤ n) (i2 : n ≤ 9223372036854775807) :
    Calls Try.prog 17 #[.agg #[.int .i64 k, .int .i64 n, .int .i64 a, .int .i64 b, .int .i64 c, .int .i64 d]] w fun e w' => e = .returned (.bool true) ∧ Below w.heap.size w w' := by
  have h0 : Below w.heap.size w (w.alloc (.cells #[.int .i64 k, .int .i64 n, .int .i64 a, .int .i64 b, .int .i64 c, .int .i64 d] 32)) := (Below.refl _ _).alloc (Nat.le_refl _) _
  have hA := heap_alloc_new w (.cells #[.int .i64 k, .int .i64 n, .int .i64 a, .int .i64 b, .int .i64 c, .int .i64 d] 32)
  obtain ⟨x0, x1, x2, x3, x4, x5⟩ := ask_cells hA
  clear hA
  have t1 := lawTold_any a b
  have t2 := lawLess_any a b c d
  unfold val at t1 t2
  have T1 := hid_mk t1
  have T2 := hid_mk t2
  clear t1 t2
  have hk : k = 0 ∨ k = 1 ∨ k = 2 ∨ k = 3 ∨ k = 4 ∨ ((k == 0) = false ∧ (k == 1) = false ∧ (k == 2) = false ∧ (k == 3) = false ∧ (k == 4) = false) := by simp; omega
  rcases hk with rfl | rfl | rfl | rfl | rfl | ⟨k0, k1, k2, k3, k4⟩
  · go_enter Try.func17, Try.ntmps17
    go_wp2_with (go_at_call 10; refine (lawMade_any _ _).mono ?_; rintro e w1 ⟨rfl, hb1⟩)
    go_ret
    exact ⟨rfl, below_two h0 hb1 h0.size⟩
  · go_enter Try.func17, Try.ntmps17
    go_wp2_with (go_at_call 11; refine (T1.out _).mono ?_; rintro e w1 ⟨rfl, hb1⟩)
    go_ret
    exact ⟨rfl, below_two h0 hb1 h0.size⟩
  · go_enter Try.func17, Try.ntmps17
    go_wp2_with (go_at_call 12; refine (lawRead_any _ _ i1 i2).mono ?_; rintro e w1 ⟨rfl, hb1⟩)
    go_ret
    exact ⟨rfl, below_two h0 hb1 h0.size⟩
  · go_enter Try.func17, Try.ntmps17
    go_wp2_with (go_at_call 6; refine (T2.out _).mono ?_; rintro e w1 ⟨rfl, hb1⟩)
    go_ret
    exact ⟨rfl, below_two h0 hb1 h0.size⟩
  · go_enter Try.func17, Try.ntmps17
    go_wp2_with (go_at_call 7; refine (lawLinks_any _ _).mono ?_; rintro e w1 ⟨rfl, hb1⟩)
    go_ret
    exact ⟨rfl, below_two h0 hb1 h0.size⟩
  · go_enter Try.func17, Try.ntmps17
    go_wp2_with fail
    go_ret
    exact ⟨rfl, h0⟩
end Go.Proofs.Ytghgpnadikjblaa
