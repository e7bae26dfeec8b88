import Derived.Test.YtkghabmgofgclaaDoorQaf
namespace Go.Proofs.YtkghabmgofgclaaDoor
open Go.RowKit
set_option linter.unusedVariables false
set_option linter.unusedSimpArgs false

set_option maxHeartbeats 4000000 in
theorem takes_2 (op a : Int) (P L C : Int) (ca : Option Addr) (n cc : Nat) (k g : Int) (ta : Option Addr) (nt tc : Nat) (fa : Option Addr) (nf fc : Nat) (w : World) (h : op = 30 ∨ op = 31 ∨ op = 32 ∨ op = 33 ∨ op = 34 ∨ op = 35 ∨ op = 36 ∨ op = 37 ∨ op = 38 ∨ op = 39 ∨ op = 40 ∨ op = 41 ∨ op = 42 ∨ op = 43 ∨ op = 44 ∨ op = 45 ∨ op = 46 ∨ op = 47 ∨ op = 48 ∨ op = 49 ∨ op = 50 ∨ op = 51 ∨ op = 52) : Calls Tryd.prog 102 #[.agg #[.int .i64 P, .int .i64 L, .int .i64 C, .slice ca n cc, .int .i64 k, .int .i64 g, .slice ta nt tc, .slice fa nf fc], .agg #[.int .i64 op, .int .i64 a]] w fun x w' => x = .returned (.int .i64 (tkS op)) ∧ Out 0 0 w w' := by
  have HO := hid_mk (((Out.refl 0 0 w).alloc (.cells #[.int .i64 P, .int .i64 L, .int .i64 C, .slice ca n cc, .int .i64 k, .int .i64 g, .slice ta nt tc, .slice fa nf fc] 104)).alloc (.cells #[.int .i64 op, .int .i64 a] 61))
  rcases h with rfl | rfl | rfl | rfl | rfl | rfl | rfl | rfl | rfl | rfl | rfl | rfl | rfl | rfl | rfl | rfl | rfl | rfl | rfl | rfl | rfl | rfl | rfl
  all_goals
    go_enter Tryd.func102, Tryd.ntmps102
    go_wp2
    go_ret
    exact ⟨rfl, HO.out⟩
end Go.Proofs.YtkghabmgofgclaaDoor
