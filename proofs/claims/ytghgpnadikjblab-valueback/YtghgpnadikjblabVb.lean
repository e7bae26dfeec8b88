/- values: plain mathematics, the leaves -/
import Derived.Test.YtghgpnadikjblabRows
import Derived.WalkKit
import Derived.ProofKit
import Derived.OpenShut
namespace Go.Proofs.Ytghgpnadikjblab
open Go.ChangeShapes Go.WideShapes Go.ChangeAt Go.RowKit
set_option linter.unusedVariables false
set_option linter.unusedSimpArgs false

theorem ret_int {k : IntKind} {a b : Int} (h : a = b) : Ending.returned (.int k a) = .returned (.int k b) := by rw [h]
theorem ret_bool {a b : Bool} (h : a = b) : Ending.returned (.bool a) = .returned (.bool b) := by rw [h]
theorem ret_val {a b : Value} (h : a = b) : Ending.returned a = .returned b := by rw [h]
theorem below_seq {a b c : World} (h : Below a.heap.size a b) (g : Below b.heap.size b c) : Below a.heap.size a c := h.trans (g.mono h.size)
theorem calls_rel {P : Program} {f : FuncId} {args : Array Value} {w w0 : World} {post : Ending → Prop} (h : Calls P f args w (fun e w' => post e ∧ Below w.heap.size w w')) (h0 : Below w0.heap.size w0 w) :
    Calls P f args w (fun e w' => post e ∧ Below w0.heap.size w0 w') := h.mono fun _ _ ⟨he, hb⟩ => ⟨he, below_seq h0 hb⟩
theorem calls_same {P : Program} {f : FuncId} {args : Array Value} {w : World} {v : Value} {K : Ending → World → Prop} (h : Calls P f args w (fun e w' => e = .returned v ∧ w' = w)) (hk : K (.returned v) w) : Calls P f args w K :=
  h.mono (by rintro e w' ⟨rfl, rfl⟩; exact hk)
theorem hid_mk {p : Prop} (h : p) : Hid p := h
theorem i64_bounds {v : Int} (h : (Lit.int .i64 v).wf = true) : -9223372036854775808 ≤ v ∧ v ≤ 9223372036854775807 := by
  simpa [Lit.wf, IntKind.min, IntKind.max, IntKind.signed, IntKind.bits] using h

def fitsB (v : Int) : Bool := decide (-1152921504606846976 ≤ v ∧ v ≤ 1152921504606846975)
def scalarB (n : Int) : Bool := decide (0 ≤ n ∧ n ≤ 1114111 ∧ (n < 55296 ∨ 57343 < n))
def nextB (n : Int) : Bool := decide (-1 ≤ n ∧ n ≤ 262143)
def validB (k n : Int) : Bool := decide ((k = 1 ∧ -1152921504606846976 ≤ n ∧ n ≤ 1152921504606846975) ∨ (k = 2 ∧ 0 ≤ n ∧ n ≤ 1152921504606846975) ∨ (k = 3 ∧ 0 ≤ n ∧ n ≤ 5) ∨ (k = 4 ∧ 0 ≤ n ∧ n ≤ 1114111 ∧ (n < 55296 ∨ 57343 < n)))
/-- a value as its struct -/
def val (k n : Int) : Value := .agg #[.int .i64 k, .int .i64 n]

theorem fixFits_any (v : Int) (w : World) :
    Calls Try.prog 16 #[.int .i64 v] w fun e w' => e = .returned (.bool (fitsB v)) ∧ w' = w := by
  go_enter Try.func16, Try.ntmps16
  go_wp2
  all_goals go_ret
  all_goals refine ⟨ret_bool ?_, rfl⟩
  all_goals (unfold fitsB; rw [Bool.eq_iff_iff]; simp; try omega)

theorem isNext_any (v : Int) (w : World) :
    Calls Try.prog 18 #[.int .i64 v] w fun e w' => e = .returned (.bool (nextB v)) ∧ w' = w := by
  go_enter Try.func18, Try.ntmps18
  go_wp2
  all_goals go_ret
  all_goals refine ⟨ret_bool ?_, rfl⟩
  all_goals (unfold nextB; rw [Bool.eq_iff_iff]; simp; try omega)

theorem validRune_any (v : Int) (w : World) :
    Calls Try.prog 20 #[.int .i32 v] w fun e w' => e = .returned (.bool (scalarB v)) ∧ w' = w := by
  have c : (0 ≤ v ∧ v < 55296) ∨ (v < 0) ∨ (55296 ≤ v ∧ v ≤ 57343) ∨ (57343 < v ∧ v ≤ 1114111) ∨ (1114111 < v) := by omega
  rcases c with ⟨c1, c2⟩ | c1 | ⟨c1, c2⟩ | ⟨c1, c2⟩ | c1
  all_goals
    go_enter Try.func20, Try.ntmps20
    go_wp2
    go_ret
    refine ⟨ret_bool ?_, rfl⟩
    unfold scalarB
    first | (symm; rw [decide_eq_true_eq]; omega) | (symm; rw [decide_eq_false_iff_not]; omega)
end Go.Proofs.Ytghgpnadikjblab
