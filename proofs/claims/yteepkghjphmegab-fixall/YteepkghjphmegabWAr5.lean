/- the walks of Ar5 -/
import Derived.Test.YteepkghjphmegabWAr4
import Derived.BigRegion
namespace Go.Proofs.Yteepkghjphmegab
open Go.ChangeShapes Go.WideShapes Go.ChangeAt Go.RowKit
set_option linter.unusedVariables false
set_option linter.unusedSimpArgs false

theorem setRow_new (W : World) (f g : Nat → Int) : (W.alloc (.cells (arr f) 55)).setRow W.heap.size (arr g) = W.alloc (.cells (arr g) 55) := by
  have h := setRow_heap (W.alloc (.cells (arr f) 55)) W.heap.size (arr f) (arr g) 55 (0, 0) (heap_alloc_new _ _)
  have e : ((W.alloc (.cells (arr f) 55)).setRow W.heap.size (arr g)).heap = (W.alloc (.cells (arr g) 55)).heap := by
    apply Array.ext_getElem?
    intro i
    by_cases hi : i = W.heap.size
    · subst hi; rw [h, heap_alloc_new]
    · rw [setRow_other _ _ _ _ hi]
      show (W.heap.push _)[i]? = (W.heap.push _)[i]?
      rw [Array.getElem?_push, Array.getElem?_push, if_neg hi, if_neg hi]
  unfold World.setRow at *
  unfold World.alloc at *
  simp only at e
  rw [e]

set_option maxHeartbeats 2000000 in
theorem refMul_any (a b : Int) (w : World) :
    Calls Try.prog 49 #[.int .i64 a, .int .i64 b] w fun e w' => e = .returned (.int .i64 (fwrap (a * b))) ∧ Below w.heap.size w w' := by
  go_enter Try.func49, Try.ntmps49
  go_wp2_with fail
  refine (refRow_any _ _).mono ?_
  rintro e w1 ⟨rfl, hg1⟩
  go_wp2_with (first | (refine alloc61 rfl rfl ?_) | (refine store61 rfl (.tmp 5) (.tmp 12) rfl _ rfl _ rfl _ (Blk.new w1 (fun _ => 0)) ?_; rw [setRow_new]))
  refine (refRow_any _ _).mono ?_
  rintro e w2 ⟨rfl, hg2⟩
  have hX0 := (Blk.new w1 (bit a)).below hg2 (by simp)
  have hW2 : Below w.heap.size w w2 := (hg1.alloc hg1.size _).trans (hg2.mono (by have := hg1.size; simp; omega))
  have hlt0 := hX0.lt
  clear hg1 hg2
  go_wp2_with (first | (refine alloc61 rfl rfl ?_) | (refine store61 rfl (.tmp 6) (.tmp 14) rfl _ rfl _ rfl _ (Blk.new w2 (fun _ => 0)) ?_; rw [setRow_new]))
  have hX := (hX0.alloc (.cells (arr (bit b)) 55)).alloc (.cells (arr (fun _ => 0)) 55)
  have hY := (Blk.new w2 (bit b)).alloc (.cells (arr (fun _ => 0)) 55)
  have hS := Blk.new (w2.alloc (.cells (arr (bit b)) 55)) (fun _ => 0)
  have hW := (hW2.alloc hW2.size (.cells (arr (bit b)) 55)).alloc (by have := hW2.size; simp; omega) (.cells (arr (fun _ => 0)) 55)
  simp at hS
  have hxy : w1.heap.size < w2.heap.size := hlt0
  have hw1 : w.heap.size ≤ w2.heap.size := hW2.size
  clear hX0 hW2 hlt0
  go_loopw [8] (fun i wr => ∃ k : Nat, k ≤ 61 ∧ i = .int .i64 k ∧ Blk wr w1.heap.size (bit a) ∧ Blk wr w2.heap.size (bit b) ∧ Blk wr (w2.heap.size + 1) (bit (a * (b % 2 ^ k))) ∧ Below w.heap.size w wr) (fun i _ => 61 - (intOf i).toNat)
  case atStart => exact ⟨0, by omega, rfl, hX, hY, hS.congr (fun i _ => by simp [Int.emod_one, bit_zero_num]), hW⟩
  case round =>
    clear hX hY hS hW
    obtain ⟨k, hk, rfl, hX, hY, hS, hW⟩ := hrel
    by_cases hlt : k < 61
    · have hXn := hX.alloc (.cells (arr (fun _ => 0)) 55)
      have hYn := hY.alloc (.cells (arr (fun _ => 0)) 55)
      have hSn := hS.alloc (.cells (arr (fun _ => 0)) 55)
      have hPn := Blk.new wr (fun _ => 0)
      have hWn := hW.alloc hW.size (.cells (arr (fun _ => 0)) 55)
      have lx := hX.lt
      have ly := hY.lt
      have ls := hS.lt
      clear hX hY hS hW
      go_wp2_with (refine alloc61 rfl rfl ?_)
      obtain ⟨wo, hwo⟩ : ∃ wo, wo = wr := ⟨_, rfl⟩
      subst hwo
      go_loopw [10] (fun j wr => ∃ m : Nat, k + m ≤ 61 ∧ j = .int .i64 m ∧ Blk wr w1.heap.size (bit a) ∧ Blk wr w2.heap.size (bit b) ∧ Blk wr (w2.heap.size + 1) (bit (a * (b % 2 ^ k))) ∧ Blk wr wo.heap.size (mix (k + m) (bit (a * (bit b k * 2 ^ k))) (fun _ => 0)) ∧ Below w.heap.size w wr) (fun j _ => 61 - (intOf j).toNat)
      case atStart =>
        refine ⟨0, by omega, rfl, hXn, hYn, hSn, hPn.congr (fun i _ => ?_), hWn⟩
        unfold mix
        by_cases h : i < k
        · simp [h]; exact mulLow a b k i h
        · simp [h]
      case round =>
        clear hXn hYn hSn hPn hWn
        obtain ⟨m, hm, rfl, hX, hY, hS, hP, hW⟩ := hrel
        by_cases hl2 : k + m < 61
        · have cX := hX.cell (k := m) (by omega)
          have cY := hY.cell hlt
          have cP := hP.cell hl2
          have fP := hP.frozen (k + m)
          obtain ⟨ba0, ba1⟩ := bit_01 a m
          obtain ⟨bb0, bb1⟩ := bit_01 b k
          have hm0 : 0 ≤ bit a m * bit b k := Int.mul_nonneg ba0 bb0
          have hm1 : bit a m * bit b k ≤ 1 := by
            have : bit b k = 0 ∨ bit b k = 1 := by omega
            rcases this with e | e <;> rw [e] <;> omega
          have kb : (k : Int) < 61 := by omega
          have mb : (m : Int) < 61 := by omega
          have kmb : (k : Int) + (m : Int) < 61 := by omega
          go_wp2_with fail
          go_region
          all_goals go_wp2
          all_goals go_roundw
          case rel =>
            refine ⟨m + 1, by omega, by go_num, ?_, ?_, ?_, ?_, ?_⟩
            · exact Blk.setOther hX (by simp; omega) _
            · exact Blk.setOther hY (by simp; omega) _
            · exact Blk.setOther hS (by simp; omega) _
            · exact (Blk.set hP (k + m) _).congr (fun i _ => mix_step (k + m) _ _ _ (mulPart a b k m hl2) i)
            · have hq : w.heap.size ≤ (⟨wo.heap.size, k + m, none⟩ : Addr).block := by show w.heap.size ≤ wo.heap.size; omega
              first | exact (Below.setCell hW hq _).drew | exact Below.setCell hW hq _
          case measure => simp [intOf]; omega
        · have hP' : Blk wr wo.heap.size (bit (a * (bit b k * 2 ^ k))) := hP.congr (fun i hi => by simp [mix, show i < k + m by omega])
          go_wp2_with (first | (refine load61 rfl (.tmp 7) rfl _ rfl _ hS ?_) | (refine load61 rfl (.tmp 9) rfl _ rfl _ hP' ?_) | (go_at_call 65; refine (refPlus_any _ _ _).mono ?_; rintro e w3 ⟨rfl, hg⟩; have hS3 := hS.below hg hS.lt) | (refine store61 rfl (.tmp 7) (.tmp 38) rfl _ rfl _ rfl _ hS3 ?_))
          go_roundw
          case rel => exact ⟨k + 1, by omega, by go_num, (hX.below hg hX.lt).setRowOther (by omega) _, (hY.below hg hY.lt).setRowOther (by omega) _, by rw [← mulSum]; exact hS3.setRow _, below_setRow' (below_seq hW hg) (by omega) _⟩
          case measure => simp [intOf]; omega
    · have HE : Hid (fwrap (a * (b % 2 ^ k)) = fwrap (a * b)) := by
        have : k = 61 := by omega
        subst this; exact mulEnd a b
      go_wp2_with (first | (refine load61 rfl (.tmp 7) rfl _ rfl _ hS ?_) | (go_at_call 64; refine (refNumber_any _ _).mono ?_; rintro e w3 ⟨rfl, rfl⟩))
      go_ret
      exact ⟨ret_int HE.out, hW.alloc hW.size _⟩

theorem refSize_any (v : Int) (w : World) (h1 : -9223372036854775807 ≤ v) :
    Calls Try.prog 28 #[.int .i64 v] w fun e w' => e = .returned (.int .i64 v.natAbs) ∧ w' = w := by
  by_cases h : v < 0
  · go_enter Try.func28, Try.ntmps28
    go_wp2
    go_ret
    refine ⟨ret_int ?_, rfl⟩
    first | omega | (unfold wrap64; omega)
  · go_enter Try.func28, Try.ntmps28
    go_wp2
    go_ret
    exact ⟨ret_int (by omega), rfl⟩

theorem pow61 : (2 : Int) ^ 61 = 2305843009213693952 := by decide
theorem div_step (x : Int) (i : Nat) (y : Int) (hy : 0 < y) (hx : 0 ≤ x) :
    (x / 2 ^ i / y) = 2 * (x / 2 ^ (i + 1) / y) + (if 2 * (x / 2 ^ (i + 1) % y) + x / 2 ^ i % 2 ≥ y then 1 else 0) ∧
    (x / 2 ^ i % y) = 2 * (x / 2 ^ (i + 1) % y) + x / 2 ^ i % 2 - (if 2 * (x / 2 ^ (i + 1) % y) + x / 2 ^ i % 2 ≥ y then y else 0) := by
  rw [div_succ]
  generalize x / 2 ^ i = z
  have h1 := Int.mul_ediv_add_emod (z / 2) y
  have h2 := Int.emod_nonneg (z / 2) (Int.ne_of_gt hy)
  have h3 := Int.emod_lt_of_pos (z / 2) hy
  have h4 : z = 2 * (z / 2) + z % 2 := by omega
  generalize hq : z / 2 / y = q at *
  generalize hr : z / 2 % y = r at *
  have hz : z = y * (2 * q) + (2 * r + z % 2) := by
    have : y * (2 * q) = 2 * (y * q) := by rw [Int.mul_left_comm]
    omega
  have hb : 0 ≤ z % 2 ∧ z % 2 < 2 := by omega
  by_cases hc : 2 * r + z % 2 ≥ y
  · have e : z = (2 * r + z % 2 - y) + y * (2 * q + 1) := by rw [Int.mul_add]; omega
    rw [if_pos hc, if_pos hc]
    constructor
    · conv => lhs; rw [e]
      rw [Int.add_mul_ediv_left _ _ (Int.ne_of_gt hy), Int.ediv_eq_zero_of_lt (by omega) (by omega)]; omega
    · conv => lhs; rw [e]
      rw [Int.add_mul_emod_self_left, Int.emod_eq_of_lt (by omega) (by omega)]
  · rw [if_neg hc, if_neg hc]
    have e : z = (2 * r + z % 2) + y * (2 * q) := by omega
    constructor
    · conv => lhs; rw [e]
      rw [Int.add_mul_ediv_left _ _ (Int.ne_of_gt hy), Int.ediv_eq_zero_of_lt (by omega) (by omega)]; omega
    · conv => lhs; rw [e]
      rw [Int.add_mul_emod_self_left, Int.emod_eq_of_lt (by omega) (by omega)]; omega

set_option maxHeartbeats 1000000 in
theorem refDivided_any (x y : Int) (w : World) (hx0 : 0 ≤ x) (hx1 : x ≤ 1152921504606846976) (hy0 : 0 < y) (hy1 : y ≤ 1152921504606846976) :
    Calls Try.prog 68 #[.int .i64 x, .int .i64 y] w fun e w' => e = .returned (.tuple #[.int .i64 (x / y), .int .i64 (x % y)]) ∧ w' = w := by
  go_enter Try.func68, Try.ntmps68
  go_wp2
  go_loop [6, 7, 8] (fun q r i => ∃ k : Nat, k ≤ 61 ∧ i = .int .i64 ((k : Int) - 1) ∧ q = .int .i64 (x / 2 ^ k / y) ∧ r = .int .i64 (x / 2 ^ k % y)) (fun _ _ i => (intOf i + 1).toNat)
  case atStart =>
    have e : x / 2 ^ 61 = 0 := Int.ediv_eq_zero_of_lt hx0 (by rw [pow61]; omega)
    exact ⟨61, by omega, rfl, by rw [e]; simp, by rw [e]; simp⟩
  case round =>
    obtain ⟨k, hk, rfl, rfl, rfl⟩ := hrel
    by_cases hpos : 1 ≤ k
    · obtain ⟨n, rfl⟩ : ∃ n, k = n + 1 := ⟨k - 1, by omega⟩
      have ei : ((n + 1 : Nat) : Int) - 1 = (n : Int) := by omega
      rw [ei]
      clear ei
      have hS := div_step x n y hy0 hx0
      have hQ0 : 0 ≤ x / 2 ^ (n + 1) / y := Int.ediv_nonneg (Int.ediv_nonneg hx0 (Int.le_of_lt (pow_pos' _))) (by omega)
      have hQ1 : x / 2 ^ (n + 1) / y ≤ 1152921504606846976 := Int.le_trans (Int.ediv_le_self _ (Int.ediv_nonneg hx0 (Int.le_of_lt (pow_pos' _)))) (nat_div_bounds x (n + 1) hx0 hx1).2
      have hR0 := Int.emod_nonneg (x / 2 ^ (n + 1)) (Int.ne_of_gt hy0)
      have hR1 := Int.emod_lt_of_pos (x / 2 ^ (n + 1)) hy0
      obtain ⟨Q, hQ⟩ : ∃ Q, Q = x / 2 ^ (n + 1) / y := ⟨_, rfl⟩
      obtain ⟨R, hR⟩ : ∃ R, R = x / 2 ^ (n + 1) % y := ⟨_, rfl⟩
      rw [← hQ] at hS hQ0 hQ1
      rw [← hR] at hS hR0 hR1
      rw [← hQ, ← hR]
      have HS : Hid ((x / 2 ^ n / y) = 2 * Q + (if 2 * R + x / 2 ^ n % 2 ≥ y then 1 else 0) ∧ (x / 2 ^ n % y) = 2 * R + x / 2 ^ n % 2 - (if 2 * R + x / 2 ^ n % 2 ≥ y then y else 0)) := hS
      clear hS hQ hR
      go_wp2
      go_loop [9, 10] (fun u j => ∃ m : Nat, m ≤ n ∧ j = .int .i64 m ∧ u = .int .i64 (2 ^ m)) (fun _ j => n - (intOf j).toNat)
      case atStart => exact ⟨0, by omega, rfl, rfl⟩
      case round =>
        obtain ⟨m, hm, rfl, rfl⟩ := hrel
        have hp := pow_pos' m
        have hle := pow_le60 m (by omega)
        by_cases hmn : m < n
        · have P2 : Hid ((2 : Int) ^ m + 2 ^ m = 2 ^ (m + 1)) := by show (2 : Int) ^ m + 2 ^ m = 2 ^ (m + 1); rw [pow_succ']; omega
          go_wp2
          go_round
          case rel => exact ⟨m + 1, by omega, by go_num, congrArg (Value.int .i64) P2.out⟩
          case measure => simp [intOf]; omega
        · obtain rfl : m = n := by omega
          have hz0 : 0 ≤ x / 2 ^ m := Int.ediv_nonneg hx0 (by omega)
          have hb0 : 0 ≤ x / 2 ^ m % 2 := by omega
          have hb1 : x / 2 ^ m % 2 ≤ 1 := by omega
          by_cases hc : 2 * R + x / 2 ^ m % 2 ≥ y
          · have hc' : y ≤ R + R + x / 2 ^ m % 2 := by omega
            go_wp2
            go_round
            case rel =>
              obtain ⟨e1, e2⟩ := HS.out
              rw [if_pos hc] at e1 e2
              exact ⟨m, by omega, by go_num, congrArg (Value.int .i64) (by rw [e1]; omega), congrArg (Value.int .i64) (by rw [e2]; omega)⟩
            case measure => simp [intOf] <;> omega
          · have hc' : ¬ y ≤ R + R + x / 2 ^ m % 2 := by omega
            go_wp2
            go_round
            case rel =>
              obtain ⟨e1, e2⟩ := HS.out
              rw [if_neg hc] at e1 e2
              exact ⟨m, by omega, by go_num, congrArg (Value.int .i64) (by rw [e1]; omega), congrArg (Value.int .i64) (by rw [e2]; omega)⟩
            case measure => simp [intOf] <;> omega
    · have hk0 : Hid (k = 0) := by show k = 0; omega
      have hneg : ¬ (0 : Int) ≤ (k : Int) - 1 := by omega
      go_wp2
      go_ret2
      obtain rfl := hk0.out
      exact ⟨by simp, rfl⟩
end Go.Proofs.Yteepkghjphmegab
