import Derived.Test.YtkghabmgofgclaaDoorQai
import Derived.Test.YtkghabmgofgclaaDoorQaw
import Derived.Test.YtkghabmgofgclaaDoorQaf
namespace Go.Proofs.YtkghabmgofgclaaDoor
open Go.RowKit
set_option linter.unusedVariables false
set_option linter.unusedSimpArgs false

set_option maxHeartbeats 4000000 in
theorem rtakes_3 (op a : Int) (x : Int) (ta : Option Addr) (nt tc : Nat) (fa : Option Addr) (nf fc : Nat) (w : World) (h : op = 53 ∨ op = 54 ∨ op = 55 ∨ op = 56 ∨ op = 57 ∨ op = 58 ∨ op = 59 ∨ op = 60 ∨ op = 61 ∨ op = 62 ∨ op = 63 ∨ op = 64 ∨ op = 65 ∨ op = 66 ∨ op = 67 ∨ op = 68 ∨ op = 69 ∨ op = 70 ∨ op = 71 ∨ op = 72 ∨ op = 73 ∨ op = 74 ∨ op = 75) : Calls Tryd.prog 73 #[.agg #[.int .i64 x, .slice ta nt tc, .slice fa nf fc], .agg #[.int .i64 op, .int .i64 a]] w fun x w' => x = .returned (.int .i64 (tkS op)) ∧ Out 0 0 w w' := by
  have HO := hid_mk (((Out.refl 0 0 w).alloc (.cells #[.int .i64 x, .slice ta nt tc, .slice fa nf fc] 25)).alloc (.cells #[.int .i64 op, .int .i64 a] 61))
  rcases h with rfl | rfl | rfl | rfl | rfl | rfl | rfl | rfl | rfl | rfl | rfl | rfl | rfl | rfl | rfl | rfl | rfl | rfl | rfl | rfl | rfl | rfl | rfl
  all_goals
    go_enter Tryd.func73, Tryd.ntmps73
    go_wp2
    go_ret
    exact ⟨rfl, HO.out⟩
end Go.Proofs.YtkghabmgofgclaaDoor
namespace Go.Proofs.YtkghabmgofgclaaDoor
open Go.RowKit
set_option linter.unusedVariables false
set_option linter.unusedSimpArgs false

set_option maxHeartbeats 2000000 in
theorem rtakes_any {w : World} {B : Nat} {fs : List (Int × Int × Int × List (Int × Int))} (op a : Int) (x : Int) (ta : Option Addr) (nt tc : Nat) (fa : Option Addr) (nf fc : Nat) (hop : opS op ≠ 0) (hfs : FnIn w B fa fs) (hnf : fs.length = nf) (hB : B ≤ w.heap.size) (h16 : op = 16 → 0 ≤ a ∧ a < (nf : Int)) (h17 : op = 17 ∨ op = 18 → 0 ≤ a ∧ a ≤ 8) :
    Calls Tryd.prog 73 #[.agg #[.int .i64 x, .slice ta nt tc, .slice fa nf fc], .agg #[.int .i64 op, .int .i64 a]] w fun x w' => x = .returned (.int .i64 (tkV fs (op, a))) ∧ Out 0 0 w w' := by
  rcases op_ways hop with h | h | h | h
  · have HO := hid_mk (((Out.refl 0 0 w).alloc (.cells #[.int .i64 x, .slice ta nt tc, .slice fa nf fc] 25)).alloc (.cells #[.int .i64 op, .int .i64 a] 61))
    rcases h with rfl | rfl | rfl
    · obtain ⟨a0, a1⟩ := h16 rfl
      obtain ⟨m, rfl⟩ : ∃ m : Nat, a = (m : Int) := ⟨a.toNat, by omega⟩
      have hm : m < fs.length := by omega
      have e : tkV fs (16, (m : Int)) = (fs[m]).2.2.1 := by
        unfold tkV cpV
        rw [if_pos rfl]
        simp [List.getElem?_eq_getElem hm]
      rw [e]
      rcases hfs with q | ⟨fb, off, rfl, hlt, hc⟩
      · rw [q] at hm; simp at hm
      obtain ⟨pj, cj, c0, c1, c2, c3, c4⟩ := hc m _ (List.getElem?_eq_getElem hm)
      generalize (fs[m]).2.2.1 = cap at *
      have hlt2 : fb < w.heap.size := by omega
      have d2 : ((w.alloc (.cells #[.int .i64 x, .slice ta nt tc, .slice (some ⟨fb, off, none⟩) nf fc] 25)).alloc (.cells #[.int .i64 16, .int .i64 m] 61)).cell? ⟨fb, off + m * 4 + 2, none⟩ = some (.int .i64 cap) := (((Out.refl 0 0 w).alloc _).alloc _).cell c2 (.inr (Nat.zero_le _))
      have hi : (0 : Int) ≤ (m : Int) := by omega
      have hd : (m : Int) < (nf : Int) := by omega
      clear hc c0 c1 c3 c4 hm e a0 h16 h17 hop
      go_enter Tryd.func73, Tryd.ntmps73
      go_wp2
      go_ret
      exact ⟨rfl, HO.out⟩
    · obtain ⟨a0, a1⟩ := h17 (by omega)
      have e : tkV fs (17, a) = a + 1 := by unfold tkV; simp
      rw [e]
      clear h16 h17 hop e hfs
      go_enter Tryd.func73, Tryd.ntmps73
      go_wp2
      go_ret
      exact ⟨rfl, HO.out⟩
    · obtain ⟨a0, a1⟩ := h17 (by omega)
      have e : tkV fs (18, a) = a + 1 := by unfold tkV; simp
      rw [e]
      clear h16 h17 hop e hfs
      go_enter Tryd.func73, Tryd.ntmps73
      go_wp2
      go_ret
      exact ⟨rfl, HO.out⟩
  · rw [tk_plain fs (by omega)]
    exact rtakes_1 op a x ta nt tc fa nf fc w h
  · rw [tk_plain fs (by omega)]
    exact rtakes_2 op a x ta nt tc fa nf fc w h
  · rw [tk_plain fs (by omega)]
    exact rtakes_3 op a x ta nt tc fa nf fc w h
set_option maxHeartbeats 2000000 in
theorem rputs_any (w : World) (op a : Int) : Calls Tryd.prog 74 #[.agg #[.int .i64 op, .int .i64 a]] w fun x w' => x = .returned (.int .i64 (ptV op)) ∧ Out 0 0 w w' := by
  have HO := hid_mk ((Out.refl 0 0 w).alloc (.cells #[.int .i64 op, .int .i64 a] 61))
  by_cases h : op = 7 ∨ op = 10 ∨ op = 11 ∨ op = 14 ∨ op = 15 ∨ op = 18 ∨ op = 19 ∨ op = 21 ∨ op = 22 ∨ op = 12 ∨ op = 13
  · rcases h with rfl | rfl | rfl | rfl | rfl | rfl | rfl | rfl | rfl | rfl | rfl
    all_goals
      go_enter Tryd.func74, Tryd.ntmps74
      go_wp2
      go_ret
      exact ⟨rfl, HO.out⟩
  · have e : ptV op = 1 := by unfold ptV; rw [if_neg (by simp; omega), if_neg (by simp; omega)]
    rw [e]
    have n7 : (op == 7) = false := by simp; omega
    have n10 : (op == 10) = false := by simp; omega
    have n11 : (op == 11) = false := by simp; omega
    have n14 : (op == 14) = false := by simp; omega
    have n15 : (op == 15) = false := by simp; omega
    have n18 : (op == 18) = false := by simp; omega
    have n19 : (op == 19) = false := by simp; omega
    have n21 : (op == 21) = false := by simp; omega
    have n22 : (op == 22) = false := by simp; omega
    have n12 : (op == 12) = false := by simp; omega
    have n13 : (op == 13) = false := by simp; omega
    clear h e
    go_enter Tryd.func74, Tryd.ntmps74
    go_wp2
    go_ret
    exact ⟨rfl, HO.out⟩
theorem rends_any (w : World) (op a : Int) : Calls Tryd.prog 75 #[.agg #[.int .i64 op, .int .i64 a]] w fun x w' => x = .returned (.bool (!goB op)) ∧ Out 0 0 w w' := by
  have HO := hid_mk ((Out.refl 0 0 w).alloc (.cells #[.int .i64 op, .int .i64 a] 61))
  by_cases h : op = 14 ∨ op = 18 ∨ op = 19 ∨ op = 21 ∨ op = 22
  · rcases h with rfl | rfl | rfl | rfl | rfl
    all_goals
      go_enter Tryd.func75, Tryd.ntmps75
      go_wp2
      go_ret
      exact ⟨rfl, HO.out⟩
  · have e : (!goB op) = false := by unfold goB; simp; omega
    rw [e]
    have n14 : (op == 14) = false := by simp; omega
    have n18 : (op == 18) = false := by simp; omega
    have n19 : (op == 19) = false := by simp; omega
    have n21 : (op == 21) = false := by simp; omega
    have n22 : (op == 22) = false := by simp; omega
    clear h e
    go_enter Tryd.func75, Tryd.ntmps75
    go_wp2
    go_ret
    exact ⟨rfl, HO.out⟩
end Go.Proofs.YtkghabmgofgclaaDoor
namespace Go.Proofs.YtkghabmgofgclaaDoor
open Go.RowKit
set_option linter.unusedVariables false
set_option linter.unusedSimpArgs false

set_option maxHeartbeats 4000000 in
theorem rright_any {w : World} (op a : Int) (x : Int) (ta : Option Addr) (nt tc : Nat) (fa : Option Addr) (nf fc : Nat) (P L C : Int) (pa : Option Addr) (n c : Nat) :
    Calls Tryd.prog 58 #[.agg #[.int .i64 x, .slice ta nt tc, .slice fa nf fc], .agg #[.int .i64 P, .int .i64 L, .int .i64 C, .slice pa n c], .agg #[.int .i64 op, .int .i64 a]] w fun e w' => e = .returned (.bool (rtB x nt nf L C (op, a))) ∧ Out 0 0 w w' := by
  have HO := hid_mk ((((Out.refl 0 0 w).alloc (.cells #[.int .i64 x, .slice ta nt tc, .slice fa nf fc] 25)).alloc (.cells #[.int .i64 P, .int .i64 L, .int .i64 C, .slice pa n c] 41)).alloc (.cells #[.int .i64 op, .int .i64 a] 61))
  by_cases h : op = 2 ∨ op = 3 ∨ op = 4 ∨ op = 6 ∨ op = 7 ∨ op = 8 ∨ op = 9 ∨ op = 10 ∨ op = 16 ∨ op = 17 ∨ op = 18
  · rcases h with rfl | h
    · have e : rtB x nt nf L C (2, a) = (decide (a ≤ 1114111) && (decide (a < 55296) || decide (57343 < a))) := by simp [rtB]
      rw [e]
      generalize hb1 : decide (a ≤ 1114111) = b1
      generalize hb2 : decide (a < 55296) = b2
      generalize hb3 : decide (57343 < a) = b3
      clear e
      cases b1 <;> cases b2 <;> cases b3
      all_goals
        go_enter Tryd.func58, Tryd.ntmps58
        go_wp2
        go_ret
        exact ⟨rfl, HO.out⟩
    · rcases h with rfl | rfl | rfl | rfl | rfl | rfl | rfl | rfl | rfl | rfl
      · have e : rtB x nt nf L C (3, a) = decide (a ≤ 4) := by simp [rtB]
        rw [e]
        go_enter Tryd.func58, Tryd.ntmps58
        go_wp2
        go_ret
        exact ⟨rfl, HO.out⟩
      · have e : rtB x nt nf L C (4, a) = decide (a < nt) := by simp [rtB]
        rw [e]
        go_enter Tryd.func58, Tryd.ntmps58
        go_wp2
        go_ret
        exact ⟨rfl, HO.out⟩
      · have e : rtB x nt nf L C (6, a) = decide (a < L) := by simp [rtB]
        rw [e]
        go_enter Tryd.func58, Tryd.ntmps58
        go_wp2
        go_ret
        exact ⟨rfl, HO.out⟩
      · have e : rtB x nt nf L C (7, a) = decide (a < L) := by simp [rtB]
        rw [e]
        go_enter Tryd.func58, Tryd.ntmps58
        go_wp2
        go_ret
        exact ⟨rfl, HO.out⟩
      · have e : rtB x nt nf L C (8, a) = decide (a < C) := by simp [rtB]
        rw [e]
        go_enter Tryd.func58, Tryd.ntmps58
        go_wp2
        go_ret
        exact ⟨rfl, HO.out⟩
      · have e : rtB x nt nf L C (9, a) = decide (a < x) := by simp [rtB]
        rw [e]
        go_enter Tryd.func58, Tryd.ntmps58
        go_wp2
        go_ret
        exact ⟨rfl, HO.out⟩
      · have e : rtB x nt nf L C (10, a) = decide (a < x) := by simp [rtB]
        rw [e]
        go_enter Tryd.func58, Tryd.ntmps58
        go_wp2
        go_ret
        exact ⟨rfl, HO.out⟩
      · have e : rtB x nt nf L C (16, a) = decide (a < nf) := by simp [rtB]
        rw [e]
        go_enter Tryd.func58, Tryd.ntmps58
        go_wp2
        go_ret
        exact ⟨rfl, HO.out⟩
      · have e : rtB x nt nf L C (17, a) = decide (a ≤ 8) := by simp [rtB]
        rw [e]
        go_enter Tryd.func58, Tryd.ntmps58
        go_wp2
        go_ret
        exact ⟨rfl, HO.out⟩
      · have e : rtB x nt nf L C (18, a) = decide (a ≤ 8) := by simp [rtB]
        rw [e]
        go_enter Tryd.func58, Tryd.ntmps58
        go_wp2
        go_ret
        exact ⟨rfl, HO.out⟩
  · have e : rtB x nt nf L C (op, a) = true := by
      unfold rtB
      rw [if_neg (by simp only []; omega), if_neg (by simp only []; omega), if_neg (by simp only []; omega), if_neg (by simp only []; omega), if_neg (by simp only []; omega), if_neg (by simp only []; omega), if_neg (by simp only []; omega), if_neg (by simp only []; omega)]
    rw [e]
    have n2 : (op == 2) = false := by simp; omega
    have n3 : (op == 3) = false := by simp; omega
    have n4 : (op == 4) = false := by simp; omega
    have n6 : (op == 6) = false := by simp; omega
    have n7 : (op == 7) = false := by simp; omega
    have n8 : (op == 8) = false := by simp; omega
    have n9 : (op == 9) = false := by simp; omega
    have n10 : (op == 10) = false := by simp; omega
    have n16 : (op == 16) = false := by simp; omega
    have n17 : (op == 17) = false := by simp; omega
    have n18 : (op == 18) = false := by simp; omega
    clear h e
    go_enter Tryd.func58, Tryd.ntmps58
    go_wp2
    go_ret
    exact ⟨rfl, HO.out⟩
end Go.Proofs.YtkghabmgofgclaaDoor
