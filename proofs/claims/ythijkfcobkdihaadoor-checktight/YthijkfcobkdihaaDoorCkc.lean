/- package check: its leaves -/
import Derived.Test.YthijkfcobkdihaaDoorUp
import Derived.Test.YthijkfcobkdihaaDoorCkb
namespace Go.Proofs.YthijkfcobkdihaaDoor
open Go.RowKit
set_option linter.unusedVariables false
set_option linter.unusedSimpArgs false

/-- what a panic carries: an error and its place -/
def badP (e f i : Int) : PanicEntry := { v := .iface 103 (.agg #[.int .i64 e, .int .i64 f, .int .i64 i]), recovered := false }
theorem cwant_yes (e f i : Int) (w : World) : Calls Tryd.prog 38 #[.bool true, .int .i64 e, .int .i64 f, .int .i64 i] w fun x w' => x = .returned (.tuple #[]) ∧ w' = w := by
  go_enter Tryd.func38, Tryd.ntmps38
  go_wp2
  exact bodyPost_end (results_none Tryd.results38 _ _ _) rfl ⟨rfl, rfl⟩
theorem cwant_no (e f i : Int) (w : World) : Calls Tryd.prog 38 #[.bool false, .int .i64 e, .int .i64 f, .int .i64 i] w fun x w' => x = .panicked [badP e f i] ∧ w' = w := by
  go_enter Tryd.func38, Tryd.ntmps38
  go_wp2
  exact ⟨rfl, rfl, rfl⟩
theorem fwant_yes (P L C : Int) (ca : Option Addr) (n cc : Nat) (k g : Int) (ta : Option Addr) (nt tc : Nat) (fa : Option Addr) (nf fc : Nat) (e i : Int) (w : World) : Calls Tryd.prog 50 #[.agg #[.int .i64 P, .int .i64 L, .int .i64 C, .slice ca n cc, .int .i64 k, .int .i64 g, .slice ta nt tc, .slice fa nf fc], .bool true, .int .i64 e, .int .i64 i] w fun x w' => x = .returned (.tuple #[]) ∧ Out 0 0 w w' := by
  have HO := hid_mk ((Out.refl 0 0 w).alloc (.cells #[.int .i64 P, .int .i64 L, .int .i64 C, .slice ca n cc, .int .i64 k, .int .i64 g, .slice ta nt tc, .slice fa nf fc] 83))
  go_enter Tryd.func50, Tryd.ntmps50
  go_wp2_with (go_at_call 38; refine calls_same (cwant_yes _ _ _ _) ?_)
  exact bodyPost_end (results_none Tryd.results50 _ _ _) rfl ⟨rfl, HO.out⟩
theorem fwant_no (P L C : Int) (ca : Option Addr) (n cc : Nat) (k g : Int) (ta : Option Addr) (nt tc : Nat) (fa : Option Addr) (nf fc : Nat) (e i : Int) (w : World) : Calls Tryd.prog 50 #[.agg #[.int .i64 P, .int .i64 L, .int .i64 C, .slice ca n cc, .int .i64 k, .int .i64 g, .slice ta nt tc, .slice fa nf fc], .bool false, .int .i64 e, .int .i64 i] w fun x w' => x = .panicked [badP e k i] ∧ Out 0 0 w w' := by
  have HO := hid_mk ((Out.refl 0 0 w).alloc (.cells #[.int .i64 P, .int .i64 L, .int .i64 C, .slice ca n cc, .int .i64 k, .int .i64 g, .slice ta nt tc, .slice fa nf fc] 83))
  go_enter Tryd.func50, Tryd.ntmps50
  go_wp2_with (go_at_call 38; refine calls_stop (cwant_no _ _ _ _) ?_)
  exact ⟨rfl, rfl, HO.out⟩
theorem fwant_any (P L C : Int) (ca : Option Addr) (n cc : Nat) (k g : Int) (ta : Option Addr) (nt tc : Nat) (fa : Option Addr) (nf fc : Nat) (b : Bool) (e i : Int) {w : World} {Q : Ending → World → Prop} (hy : ∀ w', b = true → Out 0 0 w w' → Q (.returned (.tuple #[])) w') (hn : ∀ w', b = false → Out 0 0 w w' → Q (.panicked [badP e k i]) w') : Calls Tryd.prog 50 #[.agg #[.int .i64 P, .int .i64 L, .int .i64 C, .slice ca n cc, .int .i64 k, .int .i64 g, .slice ta nt tc, .slice fa nf fc], .bool b, .int .i64 e, .int .i64 i] w Q := by
  cases b
  · exact (fwant_no P L C ca n cc k g ta nt tc fa nf fc e i w).mono fun x w' ⟨h1, h2⟩ => by rw [h1]; exact hn w' rfl h2
  · exact (fwant_yes P L C ca n cc k g ta nt tc fa nf fc e i w).mono fun x w' ⟨h1, h2⟩ => by rw [h1]; exact hy w' rfl h2
theorem jumps_any (op : Int) (w : World) : Calls Tryd.prog 52 #[.int .i64 op] w fun x w' => x = .returned (.bool (juB op)) ∧ w' = w := by
  unfold juB
  generalize h1 : (op == 14) = b1
  generalize h2 : (op == 15) = b2
  cases b1 <;> cases b2
  all_goals
    go_enter Tryd.func52, Tryd.ntmps52
    go_wp2
    go_ret
    exact ⟨rfl, rfl⟩
theorem goesOn_any (op : Int) (w : World) : Calls Tryd.prog 91 #[.int .i64 op] w fun x w' => x = .returned (.bool (goB op)) ∧ w' = w := by
  by_cases h : op = 14 ∨ op = 18 ∨ op = 19 ∨ op = 21 ∨ op = 22
  · rcases h with rfl | rfl | rfl | rfl | rfl
    all_goals
      go_enter Tryd.func91, Tryd.ntmps91
      go_wp2
      go_ret
      exact ⟨rfl, rfl⟩
  · have e1 : (op == 14) = false := by simp; omega
    have e2 : (op == 18) = false := by simp; omega
    have e3 : (op == 19) = false := by simp; omega
    have e4 : (op == 21) = false := by simp; omega
    have e5 : (op == 22) = false := by simp; omega
    have e : goB op = true := by unfold goB; rw [e1, e2, e3, e4, e5]; rfl
    rw [e]
    clear h e
    go_enter Tryd.func91, Tryd.ntmps91
    go_wp2
    go_ret
    exact ⟨rfl, rfl⟩
theorem puts_any (op : Int) (w : World) : Calls Tryd.prog 90 #[.int .i64 op] w fun x w' => x = .returned (.int .i64 (ptV op)) ∧ w' = w := by
  by_cases h : op = 7 ∨ op = 10 ∨ op = 11 ∨ op = 14 ∨ op = 15 ∨ op = 18 ∨ op = 19 ∨ op = 21 ∨ op = 22 ∨ op = 12 ∨ op = 13
  · rcases h with rfl | rfl | rfl | rfl | rfl | rfl | rfl | rfl | rfl | rfl | rfl
    all_goals
      go_enter Tryd.func90, Tryd.ntmps90
      go_wp2
      go_ret
      exact ⟨rfl, rfl⟩
  · have e1 : (op == 7) = false := by simp; omega
    have e2 : (op == 10) = false := by simp; omega
    have e3 : (op == 11) = false := by simp; omega
    have e4 : (op == 14) = false := by simp; omega
    have e5 : (op == 15) = false := by simp; omega
    have e6 : (op == 18) = false := by simp; omega
    have e7 : (op == 19) = false := by simp; omega
    have e8 : (op == 21) = false := by simp; omega
    have e9 : (op == 22) = false := by simp; omega
    have e10 : (op == 12) = false := by simp; omega
    have e11 : (op == 13) = false := by simp; omega
    have e : ptV op = 1 := by
      unfold ptV
      rw [if_neg (by simp; omega), if_neg (by simp; omega)]
    rw [e]
    clear h e
    go_enter Tryd.func90, Tryd.ntmps90
    go_wp2
    go_ret
    exact ⟨rfl, rfl⟩
end Go.Proofs.YthijkfcobkdihaaDoor
