/- the walks of Ar4 -/
import Derived.Test.YteepkghjphmegabWAr3
namespace Go.Proofs.Yteepkghjphmegab
open Go.ChangeShapes Go.WideShapes Go.ChangeAt Go.RowKit
set_option linter.unusedVariables false
set_option linter.unusedSimpArgs false

theorem bit_one (i : Nat) : upd (fun _ => 0) 0 1 i = bit 1 i := by
  unfold upd
  cases i with
  | zero => rfl
  | succ n => simp; exact (bit_big 1 (n + 1) (by omega) (by have := pow_pos' n; rw [pow_succ']; omega)).symm

set_option maxHeartbeats 1000000 in
theorem refTurned_any (a : Int) (w : World) :
    Calls Try.prog 67 #[.agg (arr (bit a))] w fun e w' => e = .returned (.agg (arr (bit (-a)))) ∧ Below w.heap.size w w' := by
  have hA := ((Blk.new w (bit a)).alloc (.cells (arr (fun _ => 0)) 55))
  have hD := (Blk.new (w.alloc (.cells (arr (bit a)) 55)) (fun _ => 0))
  have hW : Below w.heap.size w ((w.alloc (.cells (arr (bit a)) 55)).alloc (.cells (arr (fun _ => 0)) 55)) :=
    ((Below.refl _ _).alloc (by simp) _).alloc (by simp) _
  simp at hD
  go_enter Try.func67, Try.ntmps67
  go_wp2
  simp only [← arr_zero]
  go_loopw [3] (fun i wr => ∃ k : Nat, k ≤ 61 ∧ i = .int .i64 k ∧ Blk wr w.heap.size (mix k (bit (-a - 1)) (bit a)) ∧ Blk wr (w.heap.size + 1) (fun _ => 0) ∧ Below w.heap.size w wr) (fun i _ => 61 - (intOf i).toNat)
  case atStart => exact ⟨0, by omega, rfl, hA.congr (fun i _ => (mix_zero (bit (-a - 1)) (bit a) i).symm), hD, hW⟩
  case round =>
    clear hA hD hW
    obtain ⟨k, hk, rfl, hA, hD, hW⟩ := hrel
    by_cases hlt : k < 61
    · have cA := hA.cell hlt
      have eA : mix k (bit (-a - 1)) (bit a) k = bit a k := by simp [mix]
      rw [eA] at cA
      have fA := hA.frozen k
      obtain ⟨b0, b1⟩ := bit_01 a k
      clear eA
      go_wp2
      go_roundw
      case rel => exact ⟨k + 1, by omega, by go_num, (hA.set k _).congr (fun i _ => mix_step k _ _ _ (bit_not a k) i), hD.setOther (by simp) _, hW.setCell (by simp) _⟩
      case measure => simp [intOf]; omega
    · have hA' : Blk wr w.heap.size (bit (-a - 1)) := hA.congr (fun i hi => by
        have : k = 61 := by omega
        subst this; exact mix_all _ _ i hi)
      clear hA
      have hE : Blk (wr.alloc (.cells ((arr (fun _ => 0)).setIfInBounds 0 (.int .i64 1)) 55)) wr.heap.size (bit 1) := by
        rw [arr_set]; exact (Blk.new wr _).congr (fun i _ => bit_one i)
      have hA2 := hA'.alloc (.cells ((arr (fun _ => 0)).setIfInBounds 0 (.int .i64 1)) 55)
      have hD2 := hD.alloc (.cells ((arr (fun _ => 0)).setIfInBounds 0 (.int .i64 1)) 55)
      have hW2 := hW.alloc hW.size (.cells ((arr (fun _ => 0)).setIfInBounds 0 (.int .i64 1)) 55)
      have hE0 := (Blk.new wr (fun _ => 0)).cell (k := 0) (by omega)
      have hF0 := (Blk.new wr (fun _ => 0)).frozen 0
      clear hk
      go_wp2_with (first | (refine alloc61 rfl rfl ?_) | (refine load61 rfl (.tmp 1) rfl _ rfl _ hA2 ?_) | (refine load61 rfl (.tmp 4) rfl _ rfl _ hE ?_) | (go_at_call 65; refine (refPlus_any _ _ _).mono ?_; rintro e w1 ⟨rfl, hg⟩; have hD3 := hD2.below hg hD2.lt) | (refine store61 rfl (.tmp 2) (.tmp 18) rfl _ rfl _ rfl _ hD3 ?_))
      have hD3 := hD2.below hg hD2.lt
      refine ret61 Try.results67 rfl rfl (hD3.setRow _) ⟨?_, below_setRow' (hW2.trans (hg.mono hW2.size)) (by omega) _⟩
      first | rfl | rw [show -a - 1 + 1 = -a by omega]

theorem refAdd_any (a b : Int) (w : World) :
    Calls Try.prog 47 #[.int .i64 a, .int .i64 b] w fun e w' => e = .returned (.int .i64 (fwrap (a + b))) ∧ Below w.heap.size w w' := by
  have h0 := Below.refl w.heap.size w
  go_enter Try.func47, Try.ntmps47
  go_wp2_with (first | (go_at_call 66; refine (calls_rel (refRow_any _ _) (by assumption : Below w.heap.size w _)).mono ?_; rintro e w1 ⟨rfl, hg⟩) | (go_at_call 65; refine (calls_rel (refPlus_any _ _ _) (by assumption : Below w.heap.size w _)).mono ?_; rintro e w1 ⟨rfl, hg⟩) | (go_at_call 64; refine (refNumber_any _ _).mono ?_; rintro e w1 ⟨rfl, rfl⟩))
  go_ret
  exact ⟨rfl, Below.alloc (by assumption) (Below.size (by assumption)) _⟩
theorem refSub_any (a b : Int) (w : World) :
    Calls Try.prog 48 #[.int .i64 a, .int .i64 b] w fun e w' => e = .returned (.int .i64 (fwrap (a - b))) ∧ Below w.heap.size w w' := by
  have h0 := Below.refl w.heap.size w
  go_enter Try.func48, Try.ntmps48
  go_wp2_with (first | (go_at_call 66; refine (calls_rel (refRow_any _ _) (by assumption : Below w.heap.size w _)).mono ?_; rintro e w1 ⟨rfl, hg⟩) | (go_at_call 67; refine (calls_rel (refTurned_any _ _) (by assumption : Below w.heap.size w _)).mono ?_; rintro e w1 ⟨rfl, hg⟩) | (go_at_call 65; refine (calls_rel (refPlus_any _ _ _) (by assumption : Below w.heap.size w _)).mono ?_; rintro e w1 ⟨rfl, hg⟩) | (go_at_call 64; refine (refNumber_any _ _).mono ?_; rintro e w1 ⟨rfl, rfl⟩))
  go_ret
  exact ⟨ret_int (by rw [Int.sub_eq_add_neg]), Below.alloc (by assumption) (Below.size (by assumption)) _⟩

theorem mulPart (a b : Int) (i j : Nat) (h : i + j < 61) : bit a j * bit b i = bit (a * (bit b i * 2 ^ i)) (i + j) := by
  rw [← Int.mul_assoc, bit_shift]
  have : bit b i = 0 ∨ bit b i = 1 := by have := bit_01 b i; omega
  rcases this with e | e <;> rw [e]
  · rw [Int.mul_zero, Int.mul_zero, bit_zero_num]
  · rw [Int.mul_one, Int.mul_one]
theorem mulLow (a b : Int) (i j : Nat) (h : j < i) : 0 = bit (a * (bit b i * 2 ^ i)) j := by
  rw [← Int.mul_assoc, bit_shift_low _ _ _ h]
theorem mulSum (a b : Int) (i : Nat) : a * (b % 2 ^ i) + a * (bit b i * 2 ^ i) = a * (b % 2 ^ (i + 1)) := by
  rw [mod_succ, Int.mul_add, Int.mul_comm (bit b i)]
theorem mulEnd (a b : Int) : fwrap (a * (b % 2 ^ 61)) = fwrap (a * b) := by
  have e : (2 : Int) ^ 61 = 2305843009213693952 := by decide
  have h := Int.mul_ediv_add_emod b 2305843009213693952
  have : a * b = a * (b % 2305843009213693952) + 2305843009213693952 * (a * (b / 2305843009213693952)) := by
    conv => lhs; rw [← h]
    rw [Int.mul_add, Int.mul_left_comm]; omega
  rw [e, this]; unfold fwrap; omega
end Go.Proofs.Yteepkghjphmegab
