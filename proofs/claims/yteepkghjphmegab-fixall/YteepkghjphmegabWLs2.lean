/- the walks of Ls2 -/
import Derived.Test.YteepkghjphmegabWLs
namespace Go.Proofs.Yteepkghjphmegab
open Go.ChangeShapes Go.WideShapes Go.ChangeAt Go.RowKit
set_option linter.unusedVariables false
set_option linter.unusedSimpArgs false

theorem info3 : (Try.prog.info? 3).map (fun i => (i.zero, i.size, i.bytes)) = some (some (.int .i64 0), 1, 8) := by kernel_rfl
theorem made_zero (N : Int) (z : Nat) : (madeCells (Value.int .i64 0).cells (z * 1)).toList = rowL (N * 2 ^ z) z := by
  rw [Nat.mul_one]
  show (madeCells #[Value.int .i64 0] z).toList = _
  rw [toList_madeCells_one]
  apply List.ext_getElem?
  intro i
  by_cases h : i < z
  · rw [rowL_get _ _ _ h, bit_shift_low N z i h]; simp [h]
  · simp [rowL, h]
theorem bit_half (n : Int) (k : Nat) : n / 2 ^ k % 2 = bit n k := rfl

set_option maxHeartbeats 1000000 in
theorem refList_any (n : Int) (z : Nat) (w : World) (h0 : 0 ≤ n) (h1 : n < 9223372036854775808) (hz : z ≤ 100000) :
    Calls Try.prog 27 #[.int .i64 n, .int .i64 z] w fun e w' => ∃ v len, e = .returned v ∧ len ≤ z + 63 ∧ BL w' w.heap.size v (n * 2 ^ z) len ∧ Below w.heap.size w w' := by
  obtain ⟨i0, hi, hz0, hz1, hz2⟩ := info_parts info3
  go_enter Try.func27, Try.ntmps27
  go_wp2_with (at_make; refine wpList_make_full _ rfl _ _ 37 rfl w.heap.size 3 i0 (.int .i64 0) 1 Try.underlying37 hi hz0 hz1 _ _ _ _ z rfl rfl rfl rfl (by rw [hz2]; omega) (by unfold maxLen; omega) (Nat.le_refl _) ?_; intro w1 hown hgrow)
  rw [made_zero n z] at hown
  have hB : Below w.heap.size w w1 := (Below.refl _ _).grown hgrow (Nat.le_refl _) (fun k hk => by cases hk)
  have hs1 := hgrow.size
  clear hgrow
  go_loopw [0, 5] (fun x v wr => ∃ k : Nat, k ≤ 63 ∧ x = .int .i64 (n / 2 ^ k) ∧ (∃ g cap, v = .slice (some ⟨g, 0, none⟩) (z + k) cap) ∧ wr.ownsRow w.heap.size 3 1 v (z + k) (rowL (n * 2 ^ z) (z + k)) ∧ Below w.heap.size w wr) (fun x _ _ => (intOf x).toNat)
  case atStart => exact ⟨0, by omega, by simp, ⟨_, _, rfl⟩, hown, hB⟩
  case round =>
    clear hown hB
    obtain ⟨k, hk, rfl, ⟨g, cap, rfl⟩, hown, hB⟩ := hrel
    have hp := pow_pos' k
    have q0 : 0 ≤ n / 2 ^ k := Int.ediv_nonneg h0 (by omega)
    have q1 : n / 2 ^ k < 9223372036854775808 := Int.lt_of_le_of_lt (Int.ediv_le_self _ h0) h1
    by_cases hpos : 0 < n / 2 ^ k
    · have hk63 : k < 63 := by
        by_cases e : k = 63
        · subst e; have : n / 2 ^ 63 = 0 := Int.ediv_eq_zero_of_lt h0 (by have : (2 : Int) ^ 63 = 9223372036854775808 := by decide
                                                                          omega)
          omega
        · omega
      have hsz := hB.size
      go_wp2_with (at_builtin; refine wpList_append_own _ rfl _ _ 37 rfl w.heap.size 3 i0 (.int .i64 0) 1 8 Try.underlying37 hi hz0 hz1 hz2 rfl (by decide) _ _ _ rfl (hown.alloc _) ⟨wr.heap.size, 0, none⟩ 1 1 [.int .i64 (n / 2 ^ k % 2)] rfl rfl ?c1 ?c2 ?c3 ?c4 ?c5 ?_)
      case c1 =>
        intro j u hj
        match j, hj with
        | 0, hj => simp at hj; subst hj; simp [Addr.add]
      case c2 => intro u hu; simp at hu; subst hu; rfl
      case c3 => unfold maxLen; omega
      case c4 => omega
      case c5 => simp; omega
      intro v' w2 hown' hgrow hnil
      have hv' : ∃ g cap, v' = .slice (some ⟨g, 0, none⟩) (z + (k + 1)) cap := by
        rcases hown'.2 with ⟨e, h⟩ | ⟨g', cap', cur', e, _⟩
        · omega
        · exact ⟨g', cap', e⟩
      have hb2 : Below w.heap.size w w2 := (hB.alloc hsz _).grown hgrow (by simp; omega) (fun j hj => (hown.lt j hj).1)
      have ho2 : w2.ownsRow w.heap.size 3 1 v' (z + (k + 1)) (rowL (n * 2 ^ z) (z + (k + 1))) := by
        rw [← Nat.add_assoc, rowL_succ, bit_shift n z k]; exact hown'
      clear hown' hgrow hnil hown hB
      go_wp2
      go_roundw
      case rel => exact ⟨k + 1, by omega, congrArg (Value.int .i64) (div_succ n k).symm, hv', ho2, hb2⟩
      case measure => simp [intOf]; omega
    · have HZ : Hid (n / 2 ^ k = 0) := by show n / 2 ^ k = 0; omega
      go_wp2
      go_ret
      refine ⟨_, rfl, z + k, by omega, ⟨Int.mul_nonneg h0 (Int.le_of_lt (pow_pos' z)), ?_, ⟨_, _, rfl⟩, hown⟩, hB⟩
      have h3 := Int.mul_ediv_add_emod n (2 ^ k)
      have h4 := Int.emod_lt_of_pos n hp
      rw [HZ.out] at h3
      have h5 : n < 2 ^ k := by omega
      rw [Int.pow_add, Int.mul_comm]
      exact Int.mul_lt_mul_of_pos_left h5 (pow_pos' z)
end Go.Proofs.Yteepkghjphmegab
