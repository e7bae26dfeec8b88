/- package check: which operands are right -/
import Derived.Test.YthijkfcobkdihaaDoorCkc
namespace Go.Proofs.YthijkfcobkdihaaDoor
open Go.RowKit
set_option linter.unusedVariables false
set_option linter.unusedSimpArgs false

theorem i32_id {a : Int} (h0 : 0 ≤ a) (h1 : a ≤ 2097151) : IntKind.i32.wrap a = a := by
  simp [IntKind.wrap, IntKind.signed, IntKind.bits]
  omega
theorem vr_any (a : Int) (h0 : 0 ≤ a) (h1 : a ≤ 2097151) (w : World) : Calls Tryd.prog 72 #[.int .i32 a] w fun x w' => x = .returned (.bool (decide (a ≤ 1114111 ∧ (a < 55296 ∨ 57343 < a)))) ∧ w' = w := by
  have e : decide (a ≤ 1114111 ∧ (a < 55296 ∨ 57343 < a)) = (decide (a < 55296) || (decide (57343 < a) && decide (a ≤ 1114111))) := by
    by_cases q1 : a < 55296 <;> by_cases q2 : 57343 < a <;> by_cases q3 : a ≤ 1114111 <;> simp [q1, q2, q3] <;> omega
  rw [e]
  have q0 : decide (0 ≤ a) = true := by simpa using h0
  generalize hb1 : decide (a < 55296) = b1
  generalize hb2 : decide (57343 < a) = b2
  generalize hb3 : decide (a ≤ 1114111) = b3
  clear e h0 h1
  cases b1 <;> cases b2 <;> cases b3
  all_goals
    go_enter Tryd.func72, Tryd.ntmps72
    go_wp2
    go_ret
    exact ⟨rfl, rfl⟩
set_option maxHeartbeats 4000000 in
theorem right_any {w : World} (op a : Int) (P L C : Int) (ca : Option Addr) (n cc : Nat) (k g : Int) (ta : Option Addr) (nt tc : Nat) (fa : Option Addr) (nf fc : Nat) (h2 : op = 2 → 0 ≤ a ∧ a ≤ 2097151) :
    Calls Tryd.prog 51 #[.agg #[.int .i64 P, .int .i64 L, .int .i64 C, .slice ca n cc, .int .i64 k, .int .i64 g, .slice ta nt tc, .slice fa nf fc], .agg #[.int .i64 op, .int .i64 a]] w fun x w' => x = .returned (.bool (rtB g nt nf L C (op, a))) ∧ Out 0 0 w w' := by
  have HO := hid_mk (((Out.refl 0 0 w).alloc (.cells #[.int .i64 P, .int .i64 L, .int .i64 C, .slice ca n cc, .int .i64 k, .int .i64 g, .slice ta nt tc, .slice fa nf fc] 83)).alloc (.cells #[.int .i64 op, .int .i64 a] 28))
  by_cases h : op = 2 ∨ op = 3 ∨ op = 4 ∨ op = 6 ∨ op = 7 ∨ op = 8 ∨ op = 9 ∨ op = 10 ∨ op = 16 ∨ op = 17 ∨ op = 18
  · rcases h with rfl | h
    · obtain ⟨a0, a1⟩ := h2 rfl
      have hcv : IntKind.i32.wrap a = a := i32_id a0 a1
      have HV := hid_mk (vr_any a a0 a1)
      have e : rtB g nt nf L C (2, a) = decide (a ≤ 1114111 ∧ (a < 55296 ∨ 57343 < a)) := by unfold rtB; rw [if_pos rfl]
      rw [e]
      generalize decide (a ≤ 1114111 ∧ (a < 55296 ∨ 57343 < a)) = b at *
      clear h2 a0 a1 e
      go_enter Tryd.func51, Tryd.ntmps51
      go_wp2_with (go_at_call 72; refine calls_same (HV.out _) ?_)
      go_ret
      exact ⟨rfl, HO.out⟩
    · clear h2
      rcases h with rfl | rfl | rfl | rfl | rfl | rfl | rfl | rfl | rfl | rfl
      · have e : rtB g nt nf L C (3, a) = decide (a ≤ 4) := by simp [rtB]
        rw [e]
        go_enter Tryd.func51, Tryd.ntmps51
        go_wp2
        go_ret
        exact ⟨rfl, HO.out⟩
      · have e : rtB g nt nf L C (4, a) = decide (a < nt) := by simp [rtB]
        rw [e]
        go_enter Tryd.func51, Tryd.ntmps51
        go_wp2
        go_ret
        exact ⟨rfl, HO.out⟩
      · have e : rtB g nt nf L C (6, a) = decide (a < L) := by simp [rtB]
        rw [e]
        go_enter Tryd.func51, Tryd.ntmps51
        go_wp2
        go_ret
        exact ⟨rfl, HO.out⟩
      · have e : rtB g nt nf L C (7, a) = decide (a < L) := by simp [rtB]
        rw [e]
        go_enter Tryd.func51, Tryd.ntmps51
        go_wp2
        go_ret
        exact ⟨rfl, HO.out⟩
      · have e : rtB g nt nf L C (8, a) = decide (a < C) := by simp [rtB]
        rw [e]
        go_enter Tryd.func51, Tryd.ntmps51
        go_wp2
        go_ret
        exact ⟨rfl, HO.out⟩
      · have e : rtB g nt nf L C (9, a) = decide (a < g) := by simp [rtB]
        rw [e]
        go_enter Tryd.func51, Tryd.ntmps51
        go_wp2
        go_ret
        exact ⟨rfl, HO.out⟩
      · have e : rtB g nt nf L C (10, a) = decide (a < g) := by simp [rtB]
        rw [e]
        go_enter Tryd.func51, Tryd.ntmps51
        go_wp2
        go_ret
        exact ⟨rfl, HO.out⟩
      · have e : rtB g nt nf L C (16, a) = decide (a < nf) := by simp [rtB]
        rw [e]
        go_enter Tryd.func51, Tryd.ntmps51
        go_wp2
        go_ret
        exact ⟨rfl, HO.out⟩
      · have e : rtB g nt nf L C (17, a) = decide (a ≤ 8) := by simp [rtB]
        rw [e]
        go_enter Tryd.func51, Tryd.ntmps51
        go_wp2
        go_ret
        exact ⟨rfl, HO.out⟩
      · have e : rtB g nt nf L C (18, a) = decide (a ≤ 8) := by simp [rtB]
        rw [e]
        go_enter Tryd.func51, Tryd.ntmps51
        go_wp2
        go_ret
        exact ⟨rfl, HO.out⟩
  · have e : rtB g nt nf L C (op, a) = true := by
      unfold rtB
      simp only []
      rw [if_neg (by omega), if_neg (by omega), if_neg (by omega), if_neg (by omega), if_neg (by omega), if_neg (by omega), if_neg (by omega), if_neg (by omega)]
    rw [e]
    have e2 : (op == 2) = false := by simp; omega
    have e3 : (op == 3) = false := by simp; omega
    have e4 : (op == 4) = false := by simp; omega
    have e6 : (op == 6) = false := by simp; omega
    have e7 : (op == 7) = false := by simp; omega
    have e8 : (op == 8) = false := by simp; omega
    have e9 : (op == 9) = false := by simp; omega
    have e10 : (op == 10) = false := by simp; omega
    have e16 : (op == 16) = false := by simp; omega
    have e17 : (op == 17) = false := by simp; omega
    have e18 : (op == 18) = false := by simp; omega
    clear h e h2
    go_enter Tryd.func51, Tryd.ntmps51
    go_wp2
    go_ret
    exact ⟨rfl, HO.out⟩
end Go.Proofs.YthijkfcobkdihaaDoor
