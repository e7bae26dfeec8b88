import Derived.Test.YtkghabmgofgclaaDoorQaf
import Derived.Test.YtkghabmgofgclaaDoorQag
import Derived.Test.YtkghabmgofgclaaDoorQah
namespace Go.Proofs.YtkghabmgofgclaaDoor
open Go.RowKit
set_option linter.unusedVariables false
set_option linter.unusedSimpArgs false

set_option maxHeartbeats 4000000 in
theorem takes_3 (op a : Int) (P L C : Int) (ca : Option Addr) (n cc : Nat) (k g : Int) (ta : Option Addr) (nt tc : Nat) (fa : Option Addr) (nf fc : Nat) (w : World) (h : op = 53 ∨ op = 54 ∨ op = 55 ∨ op = 56 ∨ op = 57 ∨ op = 58 ∨ op = 59 ∨ op = 60 ∨ op = 61 ∨ op = 62 ∨ op = 63 ∨ op = 64 ∨ op = 65 ∨ op = 66 ∨ op = 67 ∨ op = 68 ∨ op = 69 ∨ op = 70 ∨ op = 71 ∨ op = 72 ∨ op = 73 ∨ op = 74 ∨ op = 75) : Calls Tryd.prog 102 #[.agg #[.int .i64 P, .int .i64 L, .int .i64 C, .slice ca n cc, .int .i64 k, .int .i64 g, .slice ta nt tc, .slice fa nf fc], .agg #[.int .i64 op, .int .i64 a]] w fun x w' => x = .returned (.int .i64 (tkS op)) ∧ Out 0 0 w w' := by
  have HO := hid_mk (((Out.refl 0 0 w).alloc (.cells #[.int .i64 P, .int .i64 L, .int .i64 C, .slice ca n cc, .int .i64 k, .int .i64 g, .slice ta nt tc, .slice fa nf fc] 104)).alloc (.cells #[.int .i64 op, .int .i64 a] 61))
  rcases h with rfl | rfl | rfl | rfl | rfl | rfl | rfl | rfl | rfl | rfl | rfl | rfl | rfl | rfl | rfl | rfl | rfl | rfl | rfl | rfl | rfl | rfl | rfl
  all_goals
    go_enter Tryd.func102, Tryd.ntmps102
    go_wp2
    go_ret
    exact ⟨rfl, HO.out⟩
end Go.Proofs.YtkghabmgofgclaaDoor
namespace Go.Proofs.YtkghabmgofgclaaDoor
open Go.RowKit
set_option linter.unusedVariables false
set_option linter.unusedSimpArgs false

theorem op_ways {op : Int} (h : opS op ≠ 0) : (op = 16 ∨ op = 17 ∨ op = 18) ∨ (op = 1 ∨ op = 2 ∨ op = 3 ∨ op = 4 ∨ op = 5 ∨ op = 6 ∨ op = 7 ∨ op = 8 ∨ op = 9 ∨ op = 10 ∨ op = 11 ∨ op = 12 ∨ op = 13 ∨ op = 14 ∨ op = 15 ∨ op = 19 ∨ op = 20 ∨ op = 21 ∨ op = 22) ∨ (op = 30 ∨ op = 31 ∨ op = 32 ∨ op = 33 ∨ op = 34 ∨ op = 35 ∨ op = 36 ∨ op = 37 ∨ op = 38 ∨ op = 39 ∨ op = 40 ∨ op = 41 ∨ op = 42 ∨ op = 43 ∨ op = 44 ∨ op = 45 ∨ op = 46 ∨ op = 47 ∨ op = 48 ∨ op = 49 ∨ op = 50 ∨ op = 51 ∨ op = 52) ∨ (op = 53 ∨ op = 54 ∨ op = 55 ∨ op = 56 ∨ op = 57 ∨ op = 58 ∨ op = 59 ∨ op = 60 ∨ op = 61 ∨ op = 62 ∨ op = 63 ∨ op = 64 ∨ op = 65 ∨ op = 66 ∨ op = 67 ∨ op = 68 ∨ op = 69 ∨ op = 70 ∨ op = 71 ∨ op = 72 ∨ op = 73 ∨ op = 74 ∨ op = 75) := by
  have h1 := opS_in h
  have h2 : ¬ (23 ≤ op ∧ op ≤ 29) := fun q => h (by
    unfold opS
    rw [if_neg (by omega), if_neg (by omega), if_neg (by omega), if_neg (by omega)])
  omega
theorem tk_plain (fs : List (Int × Int × Int × List (Int × Int))) {op a : Int} (h : ¬ (op = 16 ∨ op = 17 ∨ op = 18)) : tkV fs (op, a) = tkS op := by
  unfold tkV
  rw [if_neg (by simp only []; omega), if_neg (by simp only []; omega)]
set_option maxHeartbeats 1000000 in
theorem takes_any {w : World} {B : Nat} {fs : List (Int × Int × Int × List (Int × Int))} (op a : Int) (P L C : Int) (ca : Option Addr) (n cc : Nat) (k g : Int) (ta : Option Addr) (nt tc : Nat) (fa : Option Addr) (nf fc : Nat) (hop : opS op ≠ 0) (hfs : FnIn w B fa fs) (hnf : fs.length = nf) (hB : B ≤ w.heap.size) (h16 : op = 16 → 0 ≤ a ∧ a < (nf : Int)) (h17 : op = 17 ∨ op = 18 → 0 ≤ a ∧ a ≤ 8) :
    Calls Tryd.prog 102 #[.agg #[.int .i64 P, .int .i64 L, .int .i64 C, .slice ca n cc, .int .i64 k, .int .i64 g, .slice ta nt tc, .slice fa nf fc], .agg #[.int .i64 op, .int .i64 a]] w fun x w' => x = .returned (.int .i64 (tkV fs (op, a))) ∧ Out 0 0 w w' := by
  rcases op_ways hop with h | h | h | h
  · have HO := hid_mk (((Out.refl 0 0 w).alloc (.cells #[.int .i64 P, .int .i64 L, .int .i64 C, .slice ca n cc, .int .i64 k, .int .i64 g, .slice ta nt tc, .slice fa nf fc] 104)).alloc (.cells #[.int .i64 op, .int .i64 a] 61))
    rcases h with rfl | rfl | rfl
    · obtain ⟨a0, a1⟩ := h16 rfl
      obtain ⟨m, rfl⟩ : ∃ m : Nat, a = (m : Int) := ⟨a.toNat, by omega⟩
      have hm : m < fs.length := by omega
      have e : tkV fs (16, (m : Int)) = (fs[m]).2.2.1 := by
        unfold tkV cpV
        rw [if_pos rfl]
        simp [List.getElem?_eq_getElem hm]
      rw [e]
      rcases hfs with q | ⟨fb, off, rfl, hlt, hc⟩
      · rw [q] at hm; simp at hm
      obtain ⟨pj, cj, c0, c1, c2, c3, c4⟩ := hc m _ (List.getElem?_eq_getElem hm)
      generalize (fs[m]).2.2.1 = cap at *
      have hlt2 : fb < w.heap.size := by omega
      have d2 : ((w.alloc (.cells #[.int .i64 P, .int .i64 L, .int .i64 C, .slice ca n cc, .int .i64 k, .int .i64 g, .slice ta nt tc, .slice (some ⟨fb, off, none⟩) nf fc] 104)).alloc (.cells #[.int .i64 16, .int .i64 m] 61)).cell? ⟨fb, off + m * 4 + 2, none⟩ = some (.int .i64 cap) := (((Out.refl 0 0 w).alloc _).alloc _).cell c2 (.inr (Nat.zero_le _))
      have hi : (0 : Int) ≤ (m : Int) := by omega
      have hd : (m : Int) < (nf : Int) := by omega
      clear hc c0 c1 c2 c3 c4 hm e a0 h16 h17 hop
      go_enter Tryd.func102, Tryd.ntmps102
      go_wp2
      go_ret
      exact ⟨rfl, HO.out⟩
    · obtain ⟨a0, a1⟩ := h17 (.inl rfl)
      clear h16 h17 hop
      have e : tkV fs (17, a) = a + 1 := by
        unfold tkV
        rw [if_neg (show ¬ ((17 : Int) = 16) by decide), if_pos (.inl rfl)]
      rw [e]
      go_enter Tryd.func102, Tryd.ntmps102
      go_wp2
      go_ret
      exact ⟨rfl, HO.out⟩
    · obtain ⟨a0, a1⟩ := h17 (.inr rfl)
      clear h16 h17 hop
      have e : tkV fs (18, a) = a + 1 := by
        unfold tkV
        rw [if_neg (show ¬ ((18 : Int) = 16) by decide), if_pos (.inr rfl)]
      rw [e]
      go_enter Tryd.func102, Tryd.ntmps102
      go_wp2
      go_ret
      exact ⟨rfl, HO.out⟩
  · rw [tk_plain fs (by omega)]; exact takes_1 op a P L C ca n cc k g ta nt tc fa nf fc w h
  · rw [tk_plain fs (by omega)]; exact takes_2 op a P L C ca n cc k g ta nt tc fa nf fc w h
  · rw [tk_plain fs (by omega)]; exact takes_3 op a P L C ca n cc k g ta nt tc fa nf fc w h
end Go.Proofs.YtkghabmgofgclaaDoor
