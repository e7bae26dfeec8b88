import Derived.Test.YtkghabmgofgclaaDoorQaf
namespace Go.Proofs.YtkghabmgofgclaaDoor
open Go.RowKit
set_option linter.unusedVariables false
set_option linter.unusedSimpArgs false

set_option maxHeartbeats 4000000 in
theorem takes_1 (op a : Int) (P L C : Int) (ca : Option Addr) (n cc : Nat) (k g : Int) (ta : Option Addr) (nt tc : Nat) (fa : Option Addr) (nf fc : Nat) (w : World) (h : op = 1 ∨ op = 2 ∨ op = 3 ∨ op = 4 ∨ op = 5 ∨ op = 6 ∨ op = 7 ∨ op = 8 ∨ op = 9 ∨ op = 10 ∨ op = 11 ∨ op = 12 ∨ op = 13 ∨ op = 14 ∨ op = 15 ∨ op = 19 ∨ op = 20 ∨ op = 21 ∨ op = 22) : Calls Tryd.prog 102 #[.agg #[.int .i64 P, .int .i64 L, .int .i64 C, .slice ca n cc, .int .i64 k, .int .i64 g, .slice ta nt tc, .slice fa nf fc], .agg #[.int .i64 op, .int .i64 a]] w fun x w' => x = .returned (.int .i64 (tkS op)) ∧ Out 0 0 w w' := by
  have HO := hid_mk (((Out.refl 0 0 w).alloc (.cells #[.int .i64 P, .int .i64 L, .int .i64 C, .slice ca n cc, .int .i64 k, .int .i64 g, .slice ta nt tc, .slice fa nf fc] 104)).alloc (.cells #[.int .i64 op, .int .i64 a] 61))
  rcases h with rfl | rfl | rfl | rfl | rfl | rfl | rfl | rfl | rfl | rfl | rfl | rfl | rfl | rfl | rfl | rfl | rfl | rfl | rfl
  all_goals
    go_enter Tryd.func102, Tryd.ntmps102
    go_wp2
    go_ret
    exact ⟨rfl, HO.out⟩
end Go.Proofs.YtkghabmgofgclaaDoor
