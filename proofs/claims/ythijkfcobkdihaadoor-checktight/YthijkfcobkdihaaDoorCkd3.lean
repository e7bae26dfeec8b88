/- package check: what an instruction takes -/
import Derived.Test.YthijkfcobkdihaaDoorCkc
namespace Go.Proofs.YthijkfcobkdihaaDoor
open Go.RowKit
set_option linter.unusedVariables false
set_option linter.unusedSimpArgs false

set_option maxHeartbeats 4000000 in
theorem takes_3 (op a : Int) (P L C : Int) (ca : Option Addr) (n cc : Nat) (k g : Int) (ta : Option Addr) (nt tc : Nat) (fa : Option Addr) (nf fc : Nat) (w : World) (h : op = 53 ∨ op = 54 ∨ op = 55 ∨ op = 56 ∨ op = 57 ∨ op = 58 ∨ op = 59 ∨ op = 60 ∨ op = 61 ∨ op = 62 ∨ op = 63 ∨ op = 64 ∨ op = 65 ∨ op = 66 ∨ op = 67 ∨ op = 68 ∨ op = 69 ∨ op = 70 ∨ op = 71 ∨ op = 72 ∨ op = 73 ∨ op = 74 ∨ op = 75) : Calls Tryd.prog 89 #[.agg #[.int .i64 P, .int .i64 L, .int .i64 C, .slice ca n cc, .int .i64 k, .int .i64 g, .slice ta nt tc, .slice fa nf fc], .agg #[.int .i64 op, .int .i64 a]] w fun x w' => x = .returned (.int .i64 (tkS op)) ∧ Out 0 0 w w' := by
  have HO := hid_mk (((Out.refl 0 0 w).alloc (.cells #[.int .i64 P, .int .i64 L, .int .i64 C, .slice ca n cc, .int .i64 k, .int .i64 g, .slice ta nt tc, .slice fa nf fc] 83)).alloc (.cells #[.int .i64 op, .int .i64 a] 28))
  rcases h with rfl | rfl | rfl | rfl | rfl | rfl | rfl | rfl | rfl | rfl | rfl | rfl | rfl | rfl | rfl | rfl | rfl | rfl | rfl | rfl | rfl | rfl | rfl
  all_goals
    go_enter Tryd.func89, Tryd.ntmps89
    go_wp2
    go_ret
    exact ⟨rfl, HO.out⟩
end Go.Proofs.YthijkfcobkdihaaDoor
