/- hash: Of -/
import Derived.Test.YtjboogfbdgbfbaaOb
import Derived.Deep.RegionHeld3
import Derived.Lib.SmallJoins
import Derived.Deep.Strs
import Derived.Carry
namespace Go.Proofs.Ytjboogfbdgbfbaa
open Go.ChangeShapes Go.WideShapes Go.ChangeAt Go.RowKit Go.Deep
set_option linter.unusedVariables false
set_option linter.unusedSimpArgs false

/-- a block that holds one value -/
def VC (W : World) (g : Nat) (k n : Int) : Prop := W.heap[g]? = some (.cells #[.int .i64 k, .int .i64 n] 23 (0, 0))
theorem VC.kept {W W' : World} {g : Nat} {k n : Int} (h : VC W g k n) (hb : Below W.heap.size W W') : VC W' g k n := by
  unfold VC at *
  rw [← h]; exact hb.block g (Array.getElem?_eq_some_iff.1 h).1
theorem VC.facts {W : World} {g : Nat} {k n : Int} (h : VC W g k n) : W.cell? ⟨g, 0, none⟩ = some (.int .i64 k) ∧ W.cell? ⟨g, 1, none⟩ = some (.int .i64 n) := by
  unfold VC at h
  simp [World.cell?, h]
theorem VC.new (W : World) (k n : Int) : VC (W.alloc (.cells #[.int .i64 k, .int .i64 n] 23)) W.heap.size k n := heap_alloc_new _ _
abbrev val (k n : Int) : Value := .agg #[.int .i64 k, .int .i64 n]
def numV (k n s : Int) : Int := if k = 2 then s else n
theorem num_yes {k n s : Int} (h : k = 2) : numV k n s = s := by unfold numV; rw [if_pos h]
theorem num_no {k n s : Int} (h : ¬k = 2) : numV k n s = n := by unfold numV; rw [if_neg h]
theorem number_any (k n s : Int) (w : World) : Calls Try.prog 17 #[val k n, .int .i64 s] w fun e w' => e = .returned (.int .i64 (numV k n s)) ∧ Below w.heap.size w w' := by
  have b1 : Below w.heap.size w (w.alloc (.cells #[.int .i64 k, .int .i64 n] 23)) := (Below.refl _ _).alloc (Nat.le_refl _) _
  obtain ⟨c0, c1⟩ := (VC.new w k n).facts
  by_cases h : k = 2
  · rw [num_yes h]
    have e : (k == 2) = true := by simpa using h
    clear h
    go_enter Try.func17, Try.ntmps17
    go_wp2
    go_ret
    exact ⟨rfl, b1⟩
  · rw [num_no h]
    have e : (k == 2) = false := by simpa using h
    clear h
    go_enter Try.func17, Try.ntmps17
    go_wp2
    go_ret
    exact ⟨rfl, b1⟩
/-- what is folded -/
def xV (m k : Int) : Int := (m * 11400714819323198485 + k * 14029467366897019727) % 18446744073709551616
def foldV (x : Int) : Int := (((x / 4294967296).toNat ^^^ (x % 4294967296).toNat : Nat) : Int)
def ofV (k n s : Int) : Int := foldV (xV (numV k n s) k)
theorem fold_range (x : Int) (h0 : 0 ≤ x) (h1 : x < 18446744073709551616) : 0 ≤ foldV x ∧ foldV x < 4294967296 := by
  unfold foldV
  have a : (x / 4294967296).toNat < 2 ^ 32 := by omega
  have b : (x % 4294967296).toNat < 2 ^ 32 := by omega
  have := Nat.xor_lt_two_pow a b
  omega
theorem x_range (m k : Int) : 0 ≤ xV m k ∧ xV m k < 18446744073709551616 := ⟨Int.emod_nonneg _ (by decide), Int.emod_lt_of_pos _ (by decide)⟩
theorem of_range (k n s : Int) : 0 ≤ ofV k n s ∧ ofV k n s < 4294967296 := fold_range _ (x_range _ _).1 (x_range _ _).2
theorem u_wrap (v : Int) : IntKind.u64.wrap v = v % 18446744073709551616 := by simp [IntKind.wrap, IntKind.signed, IntKind.bits]
theorem x_ref (m k : Int) : IntKind.u64.wrap (IntKind.u64.wrap (11400714819323198485 * IntKind.u64.wrap m) + IntKind.u64.wrap (14029467366897019727 * IntKind.u64.wrap k)) = xV m k := by
  simp only [u_wrap]
  unfold xV
  rw [← Int.add_emod, Int.mul_comm m, Int.mul_comm k]
  rw [Int.add_emod, Int.mul_emod, Int.emod_emod, ← Int.mul_emod, Int.mul_emod 14029467366897019727, Int.emod_emod, ← Int.mul_emod, ← Int.add_emod]
theorem x_own (m k : Int) : IntKind.u64.wrap (IntKind.u64.wrap (IntKind.u64.wrap m * 11400714819323198485) + IntKind.u64.wrap (IntKind.u64.wrap k * 14029467366897019727)) = xV m k := by
  rw [Int.mul_comm (IntKind.u64.wrap m), Int.mul_comm (IntKind.u64.wrap k)]
  exact x_ref m k
theorem xor_i (a b : Int) (a0 : 0 ≤ a) (a1 : a < 4294967296) (b0 : 0 ≤ b) (b1 : b < 4294967296) : bits .xor .i64 a b = ((a.toNat ^^^ b.toNat : Nat) : Int) := by
  have e : bits .xor .i64 a b = IntKind.wrap .i64 ((BitVec.ofInt 64 a ^^^ BitVec.ofInt 64 b).toNat : Nat) := rfl
  have h : (BitVec.ofInt 64 a ^^^ BitVec.ofInt 64 b).toNat = a.toNat ^^^ b.toNat := by
    rw [BitVec.toNat_xor, ofInt_nat, ofInt_nat, Int.emod_eq_of_lt a0 (by omega), Int.emod_eq_of_lt b0 (by omega)]
  have l := Nat.xor_lt_two_pow (show a.toNat < 2 ^ 32 by omega) (show b.toNat < 2 ^ 32 by omega)
  rw [e, h]
  generalize a.toNat ^^^ b.toNat = z at *
  simp [IntKind.wrap, IntKind.signed, IntKind.bits]
  omega
theorem xor_u (a b : Int) (a0 : 0 ≤ a) (a1 : a < 4294967296) (b0 : 0 ≤ b) (b1 : b < 4294967296) : bits .xor .u64 a b = ((a.toNat ^^^ b.toNat : Nat) : Int) := by
  have e : bits .xor .u64 a b = IntKind.wrap .u64 ((BitVec.ofInt 64 a ^^^ BitVec.ofInt 64 b).toNat : Nat) := rfl
  have h : (BitVec.ofInt 64 a ^^^ BitVec.ofInt 64 b).toNat = a.toNat ^^^ b.toNat := by
    rw [BitVec.toNat_xor, ofInt_nat, ofInt_nat, Int.emod_eq_of_lt a0 (by omega), Int.emod_eq_of_lt b0 (by omega)]
  have l := Nat.xor_lt_two_pow (show a.toNat < 2 ^ 32 by omega) (show b.toNat < 2 ^ 32 by omega)
  rw [e, h, u_wrap]
  omega
theorem and_u (x : Int) (h0 : 0 ≤ x) (h1 : x < 18446744073709551616) : bits .and .u64 x 4294967295 = x % 4294967296 := by
  have e : bits .and .u64 x 4294967295 = IntKind.wrap .u64 ((BitVec.ofInt 64 x &&& BitVec.ofInt 64 4294967295).toNat : Nat) := rfl
  have h : (BitVec.ofInt 64 x &&& BitVec.ofInt 64 4294967295).toNat = x.toNat % 4294967296 := by
    have hm : (BitVec.ofInt 64 4294967295).toNat = 2 ^ 32 - 1 := by decide
    rw [BitVec.toNat_and, hm, Nat.and_two_pow_sub_one_eq_mod, ofInt_nat, Int.emod_eq_of_lt h0 h1]
  rw [e, h, u_wrap]
  omega
theorem fold_ref (x : Int) (h0 : 0 ≤ x) (h1 : x < 18446744073709551616) : bits .xor .i64 (wrap64 (IntKind.u64.wrap (x.tdiv 4294967296))) (wrap64 (x.tmod 4294967296)) = foldV x := by
  rw [Int.tdiv_eq_ediv_of_nonneg h0, Int.tmod_eq_emod_of_nonneg h0, u_wrap, Int.emod_eq_of_lt (a := x / 4294967296) (by omega) (by omega), wrap_in _ (by omega) (by omega), wrap_in _ (by omega) (by omega), xor_i _ _ (by omega) (by omega) (by omega) (by omega)]
  rfl
theorem fold_own (x : Int) (h0 : 0 ≤ x) (h1 : x < 18446744073709551616) : wrap64 (bits .xor .u64 (x / 4294967296) (bits .and .u64 x 4294967295)) = foldV x := by
  obtain ⟨r1, r2⟩ := fold_range x h0 h1
  rw [and_u x h0 h1, xor_u _ _ (by omega) (by omega) (by omega) (by omega)]
  exact wrap_in _ (by unfold foldV at r1; omega) (by unfold foldV at r2; omega)
theorem refOf_any (k n s : Int) (w : World) : Calls Try.prog 10 #[val k n, .int .i64 s] w fun e w' => e = .returned (.int .i64 (ofV k n s)) ∧ Below w.heap.size w w' := by
  have b1 : Below w.heap.size w (w.alloc (.cells #[.int .i64 k, .int .i64 n] 23)) := (Below.refl _ _).alloc (Nat.le_refl _) _
  obtain ⟨c0, c1⟩ := (VC.new w k n).facts
  obtain ⟨x0, x1⟩ := x_range (numV k n s) k
  have ex := x_ref (numV k n s) k
  have ef := fold_ref _ x0 x1
  have eo : ofV k n s = foldV (xV (numV k n s) k) := rfl
  generalize xV (numV k n s) k = x at *
  generalize ofV k n s = o at *
  rw [← eo] at ef
  clear x0 x1 eo
  by_cases h : k = 2
  · rw [num_yes h] at ex
    have e : (k == 2) = true := by simpa using h
    clear h
    go_enter Try.func10, Try.ntmps10
    go_wp2
    go_ret
    exact ⟨rfl, b1⟩
  · rw [num_no h] at ex
    have e : (k == 2) = false := by simpa using h
    clear h
    go_enter Try.func10, Try.ntmps10
    go_wp2
    go_ret
    exact ⟨rfl, b1⟩
theorem below_seq {w0 w w' : World} (h : Below w0.heap.size w0 w) (k : Below w.heap.size w w') : Below w0.heap.size w0 w' := h.trans (k.mono h.size)
theorem calls_held {f : FuncId} {args : Array Value} {v : Value} {w0 w : World} {g : Nat} {a b : Int} (h : Calls Try.prog f args w (fun e w' => e = .returned v ∧ Below w.heap.size w w'))
    (hS : w.cell? ⟨g, 0, none⟩ = some (.int .i64 a) ∧ w.cell? ⟨g, 1, none⟩ = some (.int .i64 b) ∧ VC w g a b ∧ Below w0.heap.size w0 w) :
    Calls Try.prog f args w (fun e w' => e = .returned v ∧ w'.cell? ⟨g, 0, none⟩ = some (.int .i64 a) ∧ w'.cell? ⟨g, 1, none⟩ = some (.int .i64 b) ∧ VC w' g a b ∧ Below w0.heap.size w0 w') := by
  obtain ⟨_, _, hV, hb⟩ := hS
  exact h.mono fun _ _ ⟨he, hg⟩ => ⟨he, (hV.kept hg).facts.1, (hV.kept hg).facts.2, hV.kept hg, below_seq hb hg⟩
set_option maxHeartbeats 1000000 in
theorem of_any (k n s : Int) (w : World) : Calls Try.prog 8 #[val k n, .int .i64 s] w fun e w' => e = .returned (.int .i64 (ofV k n s)) ∧ Below w.heap.size w w' := by
  have b1 : Below w.heap.size w (w.alloc (.cells #[.int .i64 k, .int .i64 n] 23)) := (Below.refl _ _).alloc (Nat.le_refl _) _
  have V := VC.new w k n
  obtain ⟨c0, c1⟩ := V.facts
  have M := hid_mk (number_any k n s)
  unfold val at M ⊢
  obtain ⟨x0, x1⟩ := x_range (numV k n s) k
  have ex := x_own (numV k n s) k
  have eo : ofV k n s = foldV (xV (numV k n s) k) := rfl
  generalize xV (numV k n s) k = x at *
  generalize ofV k n s = o at *
  generalize numV k n s = m at *
  go_enter Try.func8, Try.ntmps8
  go_wp2_with fail
  go_region_held3 (fun w' => w'.cell? ⟨w.heap.size, 0, none⟩ = some (.int .i64 k) ∧ w'.cell? ⟨w.heap.size, 1, none⟩ = some (.int .i64 n) ∧ VC w' w.heap.size k n ∧ Below w.heap.size w w') (refine ⟨?_, ?_, ?_, ?_⟩ <;> first | assumption | (apply Below.drew; assumption))
    (first | (go_at_call 17; refine (calls_held (M.out _) (by assumption)).mono ?_; rintro e w3 ⟨rfl, y0, y1, y2, y3⟩))
  all_goals go_wp2
  all_goals go_ret
  all_goals exact ⟨ret_int (by rw [eo]; exact fold_own x x0 x1), by assumption⟩
end Go.Proofs.Ytjboogfbdgbfbaa
