/- class: the leaves -/
import Derived.Test.YtgfibbpomeaokaaRows
import Derived.WalkKit
import Derived.ProofKit
import Derived.OpenShut
namespace Go.Proofs.Ytgfibbpomeaokaa
open Go.ChangeShapes Go.WideShapes Go.ChangeAt Go.RowKit
set_option linter.unusedVariables false
set_option linter.unusedSimpArgs false

theorem ret_int {k : IntKind} {a b : Int} (h : a = b) : Ending.returned (.int k a) = .returned (.int k b) := by rw [h]
theorem ret_bool {a b : Bool} (h : a = b) : Ending.returned (.bool a) = .returned (.bool b) := by rw [h]
theorem below_seq {a b c : World} (h : Below a.heap.size a b) (g : Below b.heap.size b c) : Below a.heap.size a c := h.trans (g.mono h.size)
theorem calls_rel {P : Program} {f : FuncId} {args : Array Value} {w w0 : World} {post : Ending → Prop} (h : Calls P f args w (fun e w' => post e ∧ Below w.heap.size w w')) (h0 : Below w0.heap.size w0 w) :
    Calls P f args w (fun e w' => post e ∧ Below w0.heap.size w0 w') := h.mono fun _ _ ⟨he, hb⟩ => ⟨he, below_seq h0 hb⟩
theorem calls_same {P : Program} {f : FuncId} {args : Array Value} {w : World} {v : Value} {K : Ending → World → Prop} (h : Calls P f args w (fun e w' => e = .returned v ∧ w' = w)) (hk : K (.returned v) w) : Calls P f args w K :=
  h.mono (by rintro e w' ⟨rfl, rfl⟩; exact hk)
theorem hid_mk {p : Prop} (h : p) : Hid p := h
theorem i64_bounds {v : Int} (h : (Lit.int .i64 v).wf = true) : -9223372036854775808 ≤ v ∧ v ≤ 9223372036854775807 := by
  simpa [Lit.wf, IntKind.min, IntKind.max, IntKind.signed, IntKind.bits] using h

/-- the table of the classes -/
def row8 : Array Value := #[.int .i64 2, .int .i64 4, .int .i64 6, .int .i64 8, .int .i64 12, .int .i64 16, .int .i64 20, .int .i64 32]
theorem info8 : (Try.prog.info? 33).map (·.size) = some row8.size := by kernel_rfl
theorem ret8 {fn : Func} {p : Tmp} (hr : fn.results = #[.cell p 33]) {a : Act} {w : World} {g : Nat} {post : Ending → World → Prop} (hp : a.tmps.getD p undef = .pointer (some ⟨g, 0, none⟩))
    (hd : a.defers = []) (b : w.heap[g]? = some (.cells row8 33 (0, 0))) (h : post (.returned (.agg row8)) w) : bodyPost Try.prog fn post Exit.ret a w :=
  bodyPost_ret (v := .agg row8) (results_cell_row hr a.tmps w g 33 row8 (0, 0) _ hp b Try.underlying33 rfl info8) hd h
theorem sizes_any (w : World) : Calls Try.prog 24 #[] w fun e w' => e = .returned (.agg #[.int .i64 2, .int .i64 4, .int .i64 6, .int .i64 8, .int .i64 12, .int .i64 16, .int .i64 20, .int .i64 32]) ∧ Below w.heap.size w w' := by
  have h0 := Below.refl w.heap.size w
  go_enter Try.func24, Try.ntmps24
  go_wp2
  refine ret8 (g := w.heap.size) rfl rfl rfl (heap_alloc_new _ _) ⟨rfl, ?_⟩
  exact h0.alloc (Nat.le_refl _) _

/-- the words of a class's blocks, the blocks of a page -/
def wordsV (c : Int) : Int := if c = 0 then 2 else if c = 1 then 4 else if c = 2 then 6 else if c = 3 then 8 else if c = 4 then 12 else if c = 5 then 16 else if c = 6 then 20 else if c = 7 then 32 else 0
def blocksV (c : Int) : Int := if c = 0 then 32 else if c = 1 then 16 else if c = 2 then 10 else if c = 3 then 8 else if c = 4 then 5 else if c = 5 then 4 else if c = 6 then 3 else if c = 7 then 2 else 0
def ofV (s : Int) : Int := if s < 1 then -1 else if s ≤ 2 then 0 else if s ≤ 4 then 1 else if s ≤ 6 then 2 else if s ≤ 8 then 3 else if s ≤ 12 then 4 else if s ≤ 16 then 5 else if s ≤ 20 then 6 else if s ≤ 32 then 7 else if s ≤ 1024 then 8 else -1
def pagesV (s : Int) : Int := if 32 < s ∧ s ≤ 1024 then (s + 63) / 64 else 0
theorem class_cases (c : Int) : (c = 0 ∨ c = 1 ∨ c = 2 ∨ c = 3 ∨ c = 4 ∨ c = 5 ∨ c = 6 ∨ c = 7) ∨ (c < 0 ∨ 8 ≤ c) := by omega
theorem wordsV_out {c : Int} (h : c < 0 ∨ 8 ≤ c) : wordsV c = 0 := by unfold wordsV; split <;> (try omega); repeat (split <;> (try omega))
theorem blocksV_out {c : Int} (h : c < 0 ∨ 8 ≤ c) : blocksV c = 0 := by unfold blocksV; split <;> (try omega); repeat (split <;> (try omega))

theorem index8 (cs : Array Value) (i : Int) (k : Nat) (v : Value) (hi : i = k) (h : k < 8) (hv : cs[k]? = some v) (w : World) : (Instr.index 33 (.agg cs) (.int .i64 i)).run Try.prog w = .ok v w := by
  subst hi
  simp [Instr.index, run_underlying Try.underlying33, asIntOf, h, hv, go_sem]
theorem index8n (i : Nat) (h : i < 8) (w : World) : (Instr.index 33 (.agg #[.int .i64 2, .int .i64 4, .int .i64 6, .int .i64 8, .int .i64 12, .int .i64 16, .int .i64 20, .int .i64 32]) (.int .i64 i)).run Try.prog w = .ok (.int .i64 (wordsV i)) w := by
  refine index8 _ _ i _ rfl h ?_ w
  have hi : i = 0 ∨ i = 1 ∨ i = 2 ∨ i = 3 ∨ i = 4 ∨ i = 5 ∨ i = 6 ∨ i = 7 := by omega
  rcases hi with rfl | rfl | rfl | rfl | rfl | rfl | rfl | rfl <;> rfl
theorem words_any (c : Int) (w : World) : Calls Try.prog 12 #[.int .i64 c] w fun e w' => e = .returned (.int .i64 (wordsV c)) ∧ Below w.heap.size w w' := by
  have h0 := Below.refl w.heap.size w
  by_cases hc : 0 ≤ c ∧ c < 8
  · obtain ⟨h1, h2⟩ := hc
    obtain ⟨k, rfl⟩ : ∃ k : Nat, c = k := ⟨c.toNat, by omega⟩
    have hi := index8n k (by omega)
    go_enter Try.func12, Try.ntmps12
    go_wp2_with (go_at_call 24; refine (calls_rel (sizes_any _) (by assumption)).mono ?_; rintro e w1 ⟨rfl, hg⟩)
    go_ret
    exact ⟨rfl, by assumption⟩
  · have hc : c < 0 ∨ 8 ≤ c := by omega
    rw [wordsV_out hc]
    rcases hc with h | h
    all_goals
      go_enter Try.func12, Try.ntmps12
      go_wp2
      go_ret
      exact ⟨rfl, h0⟩

theorem words_at (c v : Int) (h : wordsV c = v) (w : World) : Calls Try.prog 12 #[.int .i64 c] w fun e w' => e = .returned (.int .i64 v) ∧ Below w.heap.size w w' := by
  rw [← h]; exact words_any c w
/-- the eight classes and their numbers -/
theorem class_told (c : Int) : (∃ x y : Int, wordsV c = x ∧ blocksV c = y ∧ 0 ≤ c ∧ c ≤ 7 ∧ ((c = 0 ∧ x = 2 ∧ y = 32) ∨ (c = 1 ∧ x = 4 ∧ y = 16) ∨ (c = 2 ∧ x = 6 ∧ y = 10) ∨ (c = 3 ∧ x = 8 ∧ y = 8) ∨ (c = 4 ∧ x = 12 ∧ y = 5) ∨ (c = 5 ∧ x = 16 ∧ y = 4) ∨ (c = 6 ∧ x = 20 ∧ y = 3) ∨ (c = 7 ∧ x = 32 ∧ y = 2)))
    ∨ (wordsV c = 0 ∧ blocksV c = 0 ∧ (c < 0 ∨ 8 ≤ c)) := by
  rcases class_cases c with hc | hc
  · left
    refine ⟨_, _, rfl, rfl, by omega, by omega, ?_⟩
    rcases hc with rfl | rfl | rfl | rfl | rfl | rfl | rfl | rfl <;> decide
  · right; exact ⟨wordsV_out hc, blocksV_out hc, hc⟩
theorem blocks_any (c : Int) (w : World) : Calls Try.prog 13 #[.int .i64 c] w fun e w' => e = .returned (.int .i64 (blocksV c)) ∧ Below w.heap.size w w' := by
  have h0 := Below.refl w.heap.size w
  rcases class_told c with ⟨x, y, hx, hy, c0, c7, h⟩ | ⟨hx, hy, hc⟩
  · rw [hy]
    have H := hid_mk (words_at c x hx)
    clear hx hy c0 c7
    rcases h with ⟨rfl, rfl, rfl⟩ | ⟨rfl, rfl, rfl⟩ | ⟨rfl, rfl, rfl⟩ | ⟨rfl, rfl, rfl⟩ | ⟨rfl, rfl, rfl⟩ | ⟨rfl, rfl, rfl⟩ | ⟨rfl, rfl, rfl⟩ | ⟨rfl, rfl, rfl⟩
    all_goals
      go_enter Try.func13, Try.ntmps13
      go_wp2_with (go_at_call 12; refine (calls_rel (H.out _) (by assumption)).mono ?_; rintro e w1 ⟨rfl, hg⟩)
      go_ret
      exact ⟨rfl, by assumption⟩
  · rw [hy]
    have H := hid_mk (words_at c 0 hx)
    clear hx hy hc
    go_enter Try.func13, Try.ntmps13
    go_wp2_with (go_at_call 12; refine (calls_rel (H.out _) (by assumption)).mono ?_; rintro e w1 ⟨rfl, hg⟩)
    go_ret
    exact ⟨rfl, by assumption⟩
theorem blocks_at (c v : Int) (h : blocksV c = v) (w : World) : Calls Try.prog 13 #[.int .i64 c] w fun e w' => e = .returned (.int .i64 v) ∧ Below w.heap.size w w' := by
  rw [← h]; exact blocks_any c w
def startV (c i : Int) : Int := if 0 ≤ i ∧ i < blocksV c then i * wordsV c else -1
def indexV (c o : Int) : Int := if 0 < wordsV c ∧ 0 ≤ o ∧ o % wordsV c = 0 ∧ o / wordsV c < blocksV c then o / wordsV c else -1
theorem start_any (c i : Int) (w : World) : Calls Try.prog 16 #[.int .i64 c, .int .i64 i] w fun e w' => e = .returned (.int .i64 (startV c i)) ∧ Below w.heap.size w w' := by
  have h0 := Below.refl w.heap.size w
  have hb : blocksV c ≤ 32 ∧ 0 ≤ blocksV c := by rcases class_told c with ⟨x, y, hx, hy, c0, c7, h⟩ | ⟨hx, hy, hc⟩ <;> omega
  have hw : 0 ≤ wordsV c ∧ wordsV c ≤ 32 := by rcases class_told c with ⟨x, y, hx, hy, c0, c7, h⟩ | ⟨hx, hy, hc⟩ <;> omega
  obtain ⟨b1, b2⟩ := hb
  by_cases hi : 0 ≤ i ∧ i < blocksV c
  · obtain ⟨i1, i2⟩ := hi
    have hp1 : 0 ≤ i * wordsV c := Int.mul_nonneg i1 hw.1
    have hp2 : i * wordsV c ≤ 32 * 32 := Int.mul_le_mul (by omega) hw.2 hw.1 (by omega)
    have hs : startV c i = i * wordsV c := by unfold startV; rw [if_pos ⟨i1, i2⟩]
    rw [hs]
    have HB := hid_mk (blocks_at c _ rfl)
    have HW := hid_mk (words_at c _ rfl)
    clear hs hw
    generalize blocksV c = y at *
    generalize wordsV c = x at *
    have hwr : wrap64 (i * x) = i * x := by unfold wrap64; omega
    clear hp1 hp2
    go_enter Try.func16, Try.ntmps16
    go_wp2_with (first
      | (go_at_call 13; refine (calls_rel (HB.out _) (by assumption)).mono ?_; rintro e w1 ⟨rfl, hg⟩)
      | (go_at_call 12; refine (calls_rel (HW.out _) (by assumption)).mono ?_; rintro e w1 ⟨rfl, hg⟩))
    go_ret
    refine ⟨ret_int ?_, by assumption⟩
    first | rfl | exact hwr
  · have hs : startV c i = -1 := by unfold startV; rw [if_neg hi]
    rw [hs]
    have HB := hid_mk (blocks_at c _ rfl)
    clear hs hw b1 b2
    generalize blocksV c = y at *
    have hi : i < 0 ∨ (0 ≤ i ∧ y ≤ i) := by omega
    rcases hi with h | ⟨h1, h2⟩
    all_goals
      go_enter Try.func16, Try.ntmps16
      go_wp2_with (go_at_call 13; refine (calls_rel (HB.out _) (by assumption)).mono ?_; rintro e w1 ⟨rfl, hg⟩)
      go_ret
      exact ⟨rfl, by assumption⟩
end Go.Proofs.Ytgfibbpomeaokaa
