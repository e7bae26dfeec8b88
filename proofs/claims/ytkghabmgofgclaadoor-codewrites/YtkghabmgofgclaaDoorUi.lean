/- package code: bits, instructions are written -/
import Derived.Test.YtkghabmgofgclaaDoorUh
namespace Go.Proofs.YtkghabmgofgclaaDoor
open Go.RowKit
set_option linter.unusedVariables false
set_option linter.unusedSimpArgs false

theorem byte_lo (x : Int) : 0 ≤ x % 256 := Int.emod_nonneg _ (by decide)
theorem byte_hi (x : Int) : x % 256 ≤ 255 := by have := Int.emod_lt_of_pos x (show (0 : Int) < 256 by decide); omega
theorem le8_up {a : Int} {i : Nat} (h : i < 8) : (le8 a).take (i + 1) = (le8 a).take i ++ [a / 2 ^ (8 * i) % 256] := by
  have hl : (le8 a).length = 8 := by unfold le8; simp
  rw [List.take_succ_eq_append_getElem (by omega)]
  congr 2
  unfold le8
  simp only [List.getElem_map, List.getElem_range]
  rw [show (2 : Int) ^ (8 * i) = 256 ^ i by rw [Int.pow_mul]; rfl]
set_option maxRecDepth 100000 in
theorem bits_any {w : World} {p : Nat} {o : Option Nat} {F : List Int} (h : WR w p o F) (a : Int) :
    Calls Tryd.prog 97 #[.pointer (some ⟨p, 0, none⟩), .int .i64 a] w fun e w' => e = .returned (.tuple #[]) ∧ ∃ o', WR w' p o' (F ++ le8 a) ∧ St p o w o' w' := by
  have HW := hid_mk h
  clear h
  go_enter Tryd.func97, Tryd.ntmps97
  go_wp2
  go_loopw [5] (fun x wr => ∃ i : Nat, x = .int .i64 i ∧ i ≤ 8 ∧ ∃ o', WR wr p o' (F ++ (le8 a).take i) ∧ St p o w o' wr) (fun x _ => 8 - (intOf x).toNat)
  case atStart => exact ⟨0, rfl, by decide, o, by simpa using HW.out, St.refl _ _ _⟩
  case round =>
    obtain ⟨i, rfl, hi, o', hW, hS⟩ := hrel
    have HW1 := hid_mk hW
    have HS := hid_mk hS
    clear hW hS
    by_cases hgo : i < 8
    · have g1 : (i : Int) < 8 := by omega
      go_wp2_with (go_at_call 61; refine (put_one (b := a / 2 ^ (8 * i) % 256) HW1.out (byte_lo _) (byte_hi _) rfl rfl).mono ?_; rintro e w2 ⟨rfl, o2, hW2, hS2⟩; have HW2 := hid_mk hW2; have HS2 := hid_mk hS2; clear hW2 hS2)
      go_roundw
      case rel => exact ⟨i + 1, by go_num, by omega, o2, by rw [le8_up hgo, ← List.append_assoc]; exact HW2.out, HS.out.trans HS2.out⟩
      case measure => simp [intOf]; omega
    · have : i = 8 := by omega
      subst this
      go_wp2
      refine bodyPost_end (results_none Tryd.results97 _ _ _) rfl ⟨rfl, o', ?_, HS.out⟩
      have := HW1.out
      rwa [List.take_of_length_le (by rw [le8_eq]; simp)] at this
theorem operandOf_any (op : Int) (w : World) : Calls Tryd.prog 95 #[.int .i64 op] w fun e w' => e = .returned (.int .i64 (opS op)) ∧ w' = w := by
  by_cases h : 1 ≤ op ∧ op ≤ 18
  · have : op = 1 ∨ op = 2 ∨ op = 3 ∨ op = 4 ∨ op = 5 ∨ op = 6 ∨ op = 7 ∨ op = 8 ∨ op = 9 ∨ op = 10 ∨ op = 11 ∨ op = 12 ∨ op = 13 ∨ op = 14 ∨ op = 15 ∨ op = 16 ∨ op = 17 ∨ op = 18 := by omega
    clear h
    rcases this with rfl | rfl | rfl | rfl | rfl | rfl | rfl | rfl | rfl | rfl | rfl | rfl | rfl | rfl | rfl | rfl | rfl | rfl
    all_goals
      go_enter Tryd.func95, Tryd.ntmps95
      go_wp2
      go_ret
      exact ⟨rfl, rfl⟩
  · have e1 : (op == 1) = false := by simp; omega
    have e2 : (op == 2) = false := by simp; omega
    have e3 : (op == 3) = false := by simp; omega
    have e4 : (op == 4) = false := by simp; omega
    have e5 : (op == 5) = false := by simp; omega
    have e6 : (op == 6) = false := by simp; omega
    have e7 : (op == 7) = false := by simp; omega
    have e8 : (op == 8) = false := by simp; omega
    have e9 : (op == 9) = false := by simp; omega
    have e10 : (op == 10) = false := by simp; omega
    have e14 : (op == 14) = false := by simp; omega
    have e15 : (op == 15) = false := by simp; omega
    have e16 : (op == 16) = false := by simp; omega
    have e17 : (op == 17) = false := by simp; omega
    have e18 : (op == 18) = false := by simp; omega
    have key : ∀ b1 b2 b3 b4, decide (11 ≤ op) = b1 → decide (op ≤ 22) = b2 → decide (30 ≤ op) = b3 → decide (op ≤ 75) = b4 → opS op = (if (b1 && b2) || (b3 && b4) then 1 else 0) := by
      intro b1 b2 b3 b4 h1 h2 h3 h4
      rw [← h1, ← h2, ← h3, ← h4]
      simp only [Bool.or_eq_true, Bool.and_eq_true, decide_eq_true_eq]
      unfold opS
      rw [if_neg (by omega), if_neg (by omega), if_neg (by omega)]
      by_cases q : 11 ≤ op ∧ op ≤ 13 ∨ 19 ≤ op ∧ op ≤ 22 ∨ 30 ≤ op ∧ op ≤ 75
      · rw [if_pos q, if_pos (by omega)]
      · rw [if_neg q, if_neg (by omega)]
    clear h
    rcases h1 : decide (11 ≤ op) with _ | _ <;> rcases h2 : decide (op ≤ 22) with _ | _ <;> rcases h3 : decide (30 ≤ op) with _ | _ <;> rcases h4 : decide (op ≤ 75) with _ | _
    all_goals
      rw [key _ _ _ _ h1 h2 h3 h4]
      clear key
      go_enter Tryd.func95, Tryd.ntmps95
      go_wp2
      go_ret
      exact ⟨rfl, rfl⟩
end Go.Proofs.YtkghabmgofgclaaDoor
