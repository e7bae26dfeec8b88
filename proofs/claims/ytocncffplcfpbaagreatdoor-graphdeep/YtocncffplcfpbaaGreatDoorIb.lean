/- package value, for the show's seats -/
import Derived.Test.YtocncffplcfpbaaGreatDoorIa
import Derived.WalkKit
import Derived.Carry
namespace Go.Proofs.YtocncffplcfpbaaGreatDoor
open Go.RowKit
set_option linter.unusedVariables false
set_option linter.unusedSimpArgs false

theorem ret_val_v {a b : Value} (h : a = b) : Ending.returned a = .returned b := by rw [h]
def fitsB_v (v : Int) : Bool := decide (-1152921504606846976 ≤ v ∧ v ≤ 1152921504606846975)
def scalarB_v (n : Int) : Bool := decide (0 ≤ n ∧ n ≤ 1114111 ∧ (n < 55296 ∨ 57343 < n))
def validB_v (k n : Int) : Bool := decide ((k = 1 ∧ -1152921504606846976 ≤ n ∧ n ≤ 1152921504606846975) ∨ (k = 2 ∧ 0 ≤ n ∧ n ≤ 1152921504606846975) ∨ (k = 3 ∧ 0 ≤ n ∧ n ≤ 5) ∨ (k = 4 ∧ 0 ≤ n ∧ n ≤ 1114111 ∧ (n < 55296 ∨ 57343 < n)))
/-- a value as its struct -/
def val_v (k n : Int) : Value := .agg #[.int .i64 k, .int .i64 n]

theorem fixFits_any_v (v : Int) (w : World) :
    Calls Tryz.prog 62 #[.int .i64 v] w fun e w' => e = .returned (.bool (fitsB_v v)) ∧ w' = w := by
  go_enter Tryz.func62, Tryz.ntmps62
  go_wp2
  all_goals go_ret
  all_goals refine ⟨ret_bool ?_, rfl⟩
  all_goals (unfold fitsB_v; rw [Bool.eq_iff_iff]; simp; try omega)

theorem validRune_any_v (v : Int) (w : World) :
    Calls Tryz.prog 82 #[.int .i32 v] w fun e w' => e = .returned (.bool (scalarB_v v)) ∧ w' = w := by
  have c : (0 ≤ v ∧ v < 55296) ∨ (v < 0) ∨ (55296 ≤ v ∧ v ≤ 57343) ∨ (57343 < v ∧ v ≤ 1114111) ∨ (1114111 < v) := by omega
  rcases c with ⟨c1, c2⟩ | c1 | ⟨c1, c2⟩ | ⟨c1, c2⟩ | c1
  all_goals
    go_enter Tryz.func82, Tryz.ntmps82
    go_wp2
    go_ret
    refine ⟨ret_bool ?_, rfl⟩
    unfold scalarB_v
    first | (symm; rw [decide_eq_true_eq]; omega) | (symm; rw [decide_eq_false_iff_not]; omega)


theorem isScalar_any_v (n : Int) (w : World) :
    Calls Tryz.prog 63 #[.int .i64 n] w fun e w' => e = .returned (.bool (scalarB_v n)) ∧ w' = w := by
  go_enter Tryz.func63, Tryz.ntmps63
  go_wp2_with (go_at_call 82; refine calls_same (validRune_any_v _ _) ?_)
  all_goals go_ret
  all_goals refine ⟨ret_bool ?_, rfl⟩
  · rename_i h
    have e : wrap32 n = n := by unfold wrap32 wrap64 at *; omega
    rw [e]
  · rename_i h
    unfold scalarB_v
    symm; rw [decide_eq_false_iff_not]
    unfold wrap32 wrap64 at *; omega


theorem val_cells_v {W : World} {g : Nat} {x y : Int} (h : W.heap[g]? = some (.cells #[.int .i64 x, .int .i64 y] 28 (0, 0))) :
    W.cell? ⟨g, 0, none⟩ = some (.int .i64 x) ∧ W.cell? ⟨g, 1, none⟩ = some (.int .i64 y) := by
  simp [World.cell?, h]
theorem kinds_v (k : Int) : k = 1 ∨ k = 2 ∨ k = 3 ∨ k = 4 ∨ ((k == 1) = false ∧ (k == 2) = false ∧ (k == 3) = false ∧ (k == 4) = false) := by
  simp; omega
theorem valid1_v (n : Int) : validB_v 1 n = fitsB_v n := by unfold validB_v fitsB_v; simp
theorem valid2_v (n : Int) : validB_v 2 n = (decide (0 ≤ n) && fitsB_v n) := by unfold validB_v fitsB_v; rw [Bool.eq_iff_iff]; simp; omega
theorem valid3_v (n : Int) : validB_v 3 n = decide (0 ≤ n ∧ n ≤ 5) := by unfold validB_v; simp
theorem valid4_v (n : Int) : validB_v 4 n = scalarB_v n := by unfold validB_v scalarB_v; simp
theorem valid5_v (k n : Int) (h : (k == 1) = false ∧ (k == 2) = false ∧ (k == 3) = false ∧ (k == 4) = false) : validB_v k n = false := by
  unfold validB_v; simp at h ⊢; omega
set_option maxHeartbeats 1000000 in
theorem valid_any_v (k n : Int) (w : World) :
    Calls Tryz.prog 43 #[val_v k n] w fun e w' => e = .returned (.bool (validB_v k n)) ∧ Below w.heap.size w w' := by
  unfold val_v
  have h0 : Below w.heap.size w (w.alloc (.cells #[.int .i64 k, .int .i64 n] 28)) := (Below.refl _ _).alloc (Nat.le_refl _) _
  have hA := heap_alloc_new w (.cells #[.int .i64 k, .int .i64 n] 28)
  obtain ⟨x0, x1⟩ := val_cells_v hA
  clear hA
  rcases kinds_v k with rfl | rfl | rfl | rfl | hk
  · rw [valid1_v]
    go_enter Tryz.func43, Tryz.ntmps43
    go_wp2_with (go_at_call 62; refine calls_same (fixFits_any_v _ _) ?_)
    go_ret
    exact ⟨rfl, h0⟩
  · rw [valid2_v]
    by_cases hn : 0 ≤ n
    · simp only [hn, decide_true, Bool.true_and]
      go_enter Tryz.func43, Tryz.ntmps43
      go_wp2_with (go_at_call 62; refine calls_same (fixFits_any_v _ _) ?_)
      go_ret
      exact ⟨rfl, h0⟩
    · have hn' : n < 0 := by omega
      simp only [hn, decide_false, Bool.false_and]
      clear hn
      go_enter Tryz.func43, Tryz.ntmps43
      go_wp2_with fail
      go_ret
      exact ⟨rfl, h0⟩
  · rw [valid3_v]
    go_enter Tryz.func43, Tryz.ntmps43
    go_wp2_with fail
    all_goals go_ret
    all_goals refine ⟨ret_bool ?_, h0⟩
    all_goals (rw [Bool.eq_iff_iff]; simp; try omega)
  · rw [valid4_v]
    go_enter Tryz.func43, Tryz.ntmps43
    go_wp2_with (go_at_call 63; refine calls_same (isScalar_any_v _ _) ?_)
    go_ret
    exact ⟨rfl, h0⟩
  · rw [valid5_v k n hk]
    obtain ⟨k1, k2, k3, k4⟩ := hk
    go_enter Tryz.func43, Tryz.ntmps43
    go_wp2_with fail
    go_ret
    exact ⟨rfl, h0⟩
def VC_v (W : World) (g : Nat) (k n : Int) : Prop := W.heap[g]? = some (.cells #[.int .i64 k, .int .i64 n] 28 (0, 0))
theorem VC_v.kept {W W' : World} {g : Nat} {k n : Int} (h : VC_v W g k n) (hb : Below W.heap.size W W') : VC_v W' g k n := by
  unfold VC_v at *
  rw [← h]; exact hb.block g (Array.getElem?_eq_some_iff.1 h).1
theorem VC_v.facts {W : World} {g : Nat} {k n : Int} (h : VC_v W g k n) :
    W.cell? ⟨g, 0, none⟩ = some (.int .i64 k) ∧ W.cell? ⟨g, 1, none⟩ = some (.int .i64 n) ∧ W.frozen? ⟨g, 0, none⟩ = false ∧ W.frozen? ⟨g, 1, none⟩ = false := by
  unfold VC_v at h
  refine ⟨(val_cells_v h).1, (val_cells_v h).2, ?_, ?_⟩ <;> simp [World.frozen?, h]
theorem VC_v.set {W : World} {g : Nat} {k n : Int} (h : VC_v W g k n) (x y : Int) : VC_v ((W.setCell ⟨g, 0, none⟩ (.int .i64 x)).setCell ⟨g, 1, none⟩ (.int .i64 y)) g x y := by
  unfold VC_v at *
  simp only [World.setCell, Array.getElem?_modify, if_true, h]
  rfl
theorem VC_v.new (W : World) (k n : Int) : VC_v (W.alloc (.cells #[.int .i64 k, .int .i64 n] 28)) W.heap.size k n := heap_alloc_new _ _
theorem VC_v.lt {W : World} {g : Nat} {k n : Int} (h : VC_v W g k n) : g < W.heap.size := (Array.getElem?_eq_some_iff.1 h).1
theorem VC_v.alloc {W : World} {g : Nat} {k n : Int} (h : VC_v W g k n) (o : Obj) : VC_v (W.alloc o) g k n := by
  unfold VC_v; rw [heap_alloc_old _ _ h.lt]; exact h
theorem info2_v : (Tryz.prog.info? 28).map (·.size) = some 2 := by kernel_rfl
theorem retVal_v {fn : Func} {p : Tmp} {a : Act} {w : World} {g : Nat} {k n : Int} {post : Ending → World → Prop} (hr : fn.results = #[.cell p 28]) (hp : a.tmps.getD p undef = .pointer (some ⟨g, 0, none⟩))
    (hd : a.defers = []) (hg : VC_v w g k n) (h : post (.returned (val_v k n)) w) : bodyPost Tryz.prog fn post Exit.ret a w :=
  bodyPost_ret (v := val_v k n) (results_cell_row hr a.tmps _ g 28 _ (0, 0) _ hp hg Tryz.underlying28 rfl info2_v) hd h
theorem retVal2_v {fn : Func} {p u : Tmp} {a : Act} {w : World} {g : Nat} {k n : Int} {v : Value} {post : Ending → World → Prop} (hr : fn.results = #[.cell p 28, .tmp u]) (hp : a.tmps.getD p undef = .pointer (some ⟨g, 0, none⟩)) (hu : a.tmps.getD u undef = v)
    (hd : a.defers = []) (hg : VC_v w g k n) (h : post (.returned (.tuple #[val_v k n, v])) w) : bodyPost Tryz.prog fn post Exit.ret a w := by
  refine bodyPost_ret (v := .tuple #[val_v k n, v]) ?_ hd h
  rw [results_cell_tmp hr, hp]
  simp [asAddr, run_loadVar_row w g 28 28 _ (0, 0) _ hg Tryz.underlying28 rfl info2_v, Result.andThen, val_v]
  simpa using hu
end Go.Proofs.YtocncffplcfpbaaGreatDoor
