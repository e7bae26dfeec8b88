/- the walks of Fq -/
import Derived.Test.YteepkghjphmegabWFs
namespace Go.Proofs.Yteepkghjphmegab
open Go.ChangeShapes Go.WideShapes Go.ChangeAt Go.RowKit
set_option linter.unusedVariables false
set_option linter.unusedSimpArgs false

theorem bl_zero (W : World) (B : Nat) (hB : B ≤ W.heap.size) : BL (W.alloc (.cells #[.int .i64 0] 3)) B (.slice (some ⟨W.heap.size, 0, none⟩) 1 1) 0 1 :=
  ⟨by omega, by decide, ⟨_, _, rfl⟩, rfl, .inr ⟨W.heap.size, 1, #[.int .i64 0], rfl, hB, heap_alloc_new _ _, by omega, by unfold maxLen; omega, rfl, rfl⟩⟩
theorem heap_alloc {W : World} {g : Nat} {o p : Obj} (h : W.heap[g]? = some p) : (W.alloc o).heap[g]? = some p := (heap_alloc_old W o (heap_lt h)).trans h
theorem mul_step (x y : Int) (k : Nat) (h : bit x k = 1) : y * (x % 2 ^ k) + y * 2 ^ ((k : Int)).toNat = y * (x % 2 ^ (k + 1)) := by
  rw [mod_succ, h, Int.mul_add, Int.mul_one]; simp
theorem mul_skip (x y : Int) (k : Nat) (h : ¬ bit x k = 1) : y * (x % 2 ^ k) = y * (x % 2 ^ (k + 1)) := by
  have : bit x k = 0 := by have := bit_01 x k; omega
  rw [mod_succ, this, Int.mul_zero, Int.add_zero]

set_option maxHeartbeats 8000000 in
theorem refFloMul_fin (a b : Int) (w : World) (ha1 : -9223372036854775808 ≤ a) (ha2 : a ≤ 9223372036854775807) (hb1 : -9223372036854775808 ≤ b) (hb2 : b ≤ 9223372036854775807)
    (na : pNone a = false) (nb : pNone b = false) (ia : pInf a = false) (ib : pInf b = false) :
    Calls Try.prog 57 #[.int .i64 a, .int .i64 b] w fun e w' => e = .returned (.int .i64 (rndV (pNeg a != pNeg b) (pWhole a * pWhole b) (pExp a + pExp b) false)) ∧ Below w.heap.size w w' := by
  obtain ⟨wa0, wa1⟩ := pWhole_bounds a
  obtain ⟨wb0, wb1⟩ := pWhole_bounds b
  obtain ⟨ea0, ea1⟩ := pExp_bounds a
  obtain ⟨eb0, eb1⟩ := pExp_bounds b
  obtain ⟨gA, hgA⟩ : ∃ x, x = pNeg a := ⟨_, rfl⟩
  obtain ⟨gB, hgB⟩ : ∃ x, x = pNeg b := ⟨_, rfl⟩
  have HfA := hid_mk (flo_as hgA ia.symm na.symm)
  have HfB := hid_mk (flo_as hgB ib.symm nb.symm)
  rw [← hgA, ← hgB]
  clear hgA hgB na nb ia ib
  go_enter Try.func57, Try.ntmps57
  go_wp2_with fail
  refine (refParts_any a _ ha1 ha2).mono ?_
  rintro e w1 ⟨rfl, hg1⟩
  rw [HfA.out]
  go_wp2_with fail
  refine (refParts_any b _ hb1 hb2).mono ?_
  rintro e w2 ⟨rfl, hg2⟩
  rw [HfB.out]
  have hA2 : w2.heap[w1.heap.size]? = some (.cells #[.bool gA, .bool false, .bool false, .int .i64 (pWhole a), .int .i64 (pExp a)] 51 (0, 0)) := heap_below (heap_alloc_new w1 _) hg2
  have hW2 : Below w.heap.size w w2 := (hg1.alloc hg1.size _).trans (hg2.mono (by have := hg1.size; simp; omega))
  have hA3 := (heap_alloc_old w2 (.cells #[.bool gB, .bool false, .bool false, .int .i64 (pWhole b), .int .i64 (pExp b)] 51) (heap_lt hA2)).trans hA2
  have hB3 := heap_alloc_new w2 (.cells #[.bool gB, .bool false, .bool false, .int .i64 (pWhole b), .int .i64 (pExp b)] 51)
  have hW3 := hW2.alloc hW2.size (.cells #[.bool gB, .bool false, .bool false, .int .i64 (pWhole b), .int .i64 (pExp b)] 51)
  clear hg1 hg2 hA2 hW2 HfA HfB
  obtain ⟨x0, x1, x2, x3, x4⟩ := cells5 hA3
  have hS3 := bl_zero (w2.alloc (.cells #[.bool gB, .bool false, .bool false, .int .i64 (pWhole b), .int .i64 (pExp b)] 51)) 0 (Nat.zero_le _)
  rw [show (w2.alloc (.cells #[.bool gB, .bool false, .bool false, .int .i64 (pWhole b), .int .i64 (pExp b)] 51)).heap.size = w2.heap.size + 1 by simp] at hS3
  have hA4 := heap_alloc (o := .cells #[.int .i64 0] 3) hA3
  have hB4 := heap_alloc (o := .cells #[.int .i64 0] 3) hB3
  have hW4 := hW3.alloc hW3.size (.cells #[.int .i64 0] 3)
  obtain ⟨u0, u1, u2, u3, u4⟩ := cells5 hA4
  by_cases hz : (pWhole a == 0) = true
  case' neg => have hz' := Bool.eq_false_iff.mpr hz; clear hz
  all_goals
    go_wp2_with fail
    refine (refListI_any _ _ _ (by omega) (by omega) (by omega) (by omega)).mono ?_
    rintro e w5 ⟨v1, len1, rfl, hl1, hl1', hp1, hb5⟩
    have hp5 := hp1.cast (N' := pWhole a) (by simp)
    have hA5 := heap_below hA4 hb5
    have hB5 := heap_below hB4 hb5
    have hW5 := below_seq hW4 hb5
    have hS5 := hS3.kept hb5
    have hl : len1 ≤ 63 := by simp at hl1'; omega
    clear hA3 hB3 hW3 hA4 hB4 hW4 hS3 hb5 hp1 hl1 hl1' x0 x1 x2 x3 x4 u0 u1 u2 u3 u4
    obtain ⟨g1, cap1, rfl⟩ := hp5.some
    go_wp2_with fail
    go_loopw [9, 11] (fun s i wr => ∃ k : Nat, k ≤ len1 ∧ i = .int .i64 k ∧ (∃ ls Bs, ls ≤ 64 + k ∧ BL wr Bs s (pWhole b * (pWhole a % 2 ^ k)) ls) ∧ (∃ Bp, BL wr Bp (.slice (some ⟨g1, 0, none⟩) len1 cap1) (pWhole a) len1) ∧
        wr.heap[w1.heap.size]? = some (.cells #[.bool gA, .bool false, .bool false, .int .i64 (pWhole a), .int .i64 (pExp a)] 51 (0, 0)) ∧ wr.heap[w2.heap.size]? = some (.cells #[.bool gB, .bool false, .bool false, .int .i64 (pWhole b), .int .i64 (pExp b)] 51 (0, 0)) ∧ Below w.heap.size w wr) (fun _ i _ => len1 - (intOf i).toNat)
    case atStart => exact ⟨0, by omega, rfl, ⟨1, 0, by omega, hS5.cast (by simp [Int.emod_one])⟩, ⟨_, hp5⟩, hA5, hB5, hW5⟩
    case round =>
      clear hS5 hp5 hA5 hB5 hW5
      obtain ⟨k, hk, rfl, ⟨ls, Bs, hls, hS⟩, ⟨Bp, hP⟩, hA, hB, hW⟩ := hrel
      obtain ⟨x0, x1, x2, x3, x4⟩ := cells5 hA
      obtain ⟨y0, y1, y2, y3, y4⟩ := cells5 hB
      by_cases hlt : k < len1
      · have hc := hP.own.cellAt k (by omega)
        rw [rowL_get _ len1 k hlt] at hc
        by_cases hb : bit (pWhole a) k = 1
        · have hb' : (bit (pWhole a) k == 1) = true := by simpa using hb
          have HB1 := hid_mk hb
          clear hb
          go_wp2_with fail
          refine (refListI_any _ _ _ (by omega) (by omega) (by omega) (by omega)).mono ?_
          rintro e w6 ⟨v2, len2, rfl, hl2, hl2', hp2, hb6⟩
          have hS6 := hS.kept hb6
          clear x0 x1 x2 x3 x4 y0 y1 y2 y3 y4 hc
          go_wp2_with fail
          refine (refSum_any _ _ _ _ ls len2 _ _ _ hS6 hp2 (by omega) (by omega)).mono ?_
          rintro e w7 ⟨v3, rfl, hp3, hb7⟩
          have hP7 := (hP.kept hb6).kept hb7
          have hA7 := heap_below (heap_below hA hb6) hb7
          have hB7 := heap_below (heap_below hB hb6) hb7
          have hW7 := below_seq (below_seq hW hb6) hb7
          clear hS6 hp2 hS hP hA hB hW hb6 hb7
          go_wp2
          go_roundw
          case rel => exact ⟨k + 1, by omega, by go_num, ⟨_, _, by simp at hl2'; omega, hp3.cast (mul_step _ _ k HB1.out)⟩, ⟨_, hP7⟩, hA7, hB7, hW7⟩
          case measure => simp [intOf]; omega
        · have hb' : (bit (pWhole a) k == 1) = false := by simpa using hb
          have HB1 := hid_mk hb
          clear hb
          go_wp2
          go_roundw
          case rel => exact ⟨k + 1, by omega, by go_num, ⟨ls, Bs, by omega, hS.cast (mul_skip _ _ k HB1.out)⟩, ⟨_, hP⟩, hA, hB, hW⟩
          case measure => simp [intOf]; omega
      · have HE : Hid (pWhole b * (pWhole a % 2 ^ k) = pWhole a * pWhole b) := by
          have hk' : k = len1 := by omega
          have := hP.hi
          show pWhole b * (pWhole a % 2 ^ k) = pWhole a * pWhole b
          rw [hk', Int.emod_eq_of_lt wa0 this, Int.mul_comm]
        have hS' := hS.cast HE.out
        have heq : (!gA == gB) = (gA != gB) := by cases gA <;> cases gB <;> rfl
        go_wp2_with (go_at_call 26; refine calls_same (refRnd_any _ _ _ _ _ _ _ _ hS' (by omega) (by omega) (by omega)) ?_)
        go_ret
        exact ⟨ret_int (by first | rfl | rw [heq]), hW⟩
end Go.Proofs.Yteepkghjphmegab
