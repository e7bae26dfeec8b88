/- words: joined, split -/
import Derived.Test.YtghgpnadikjblabVb
namespace Go.Proofs.Ytghgpnadikjblab
open Go.ChangeShapes Go.WideShapes Go.ChangeAt Go.RowKit
set_option linter.unusedVariables false
set_option linter.unusedSimpArgs false

theorem ofInt_nat (b : Int) : (BitVec.ofInt 64 b).toNat = (b % 18446744073709551616).toNat := by
  rw [BitVec.toNat_ofInt]; rfl
theorem and_seven (b : Int) : bits .and .i64 b 7 = b % 8 := by
  have h : (BitVec.ofInt 64 b &&& BitVec.ofInt 64 7).toNat = (b % 18446744073709551616).toNat % 8 := by
    have e7 : (BitVec.ofInt 64 7).toNat = 2 ^ 3 - 1 := by decide
    rw [BitVec.toNat_and, e7, Nat.and_two_pow_sub_one_eq_mod, ofInt_nat]
  have e : bits .and .i64 b 7 = IntKind.wrap .i64 ((BitVec.ofInt 64 b &&& BitVec.ofInt 64 7).toNat : Nat) := rfl
  rw [e, h]
  simp [IntKind.wrap, IntKind.signed, IntKind.bits]
  omega
theorem or_tag (b t : Int) (h1 : -1152921504606846976 ≤ b) (h2 : b ≤ 1152921504606846975) (t1 : 0 ≤ t) (t2 : t < 8) : bits .or .i64 (wrap64 (b * 8)) t = b * 8 + t := by
  have e : bits .or .i64 (wrap64 (b * 8)) t = IntKind.wrap .i64 ((BitVec.ofInt 64 (wrap64 (b * 8)) ||| BitVec.ofInt 64 t).toNat : Nat) := rfl
  have hw : wrap64 (b * 8) = b * 8 := by unfold wrap64; omega
  have h : (BitVec.ofInt 64 (b * 8) ||| BitVec.ofInt 64 t).toNat = 2 ^ 3 * (b % 2305843009213693952).toNat + t.toNat := by
    rw [BitVec.toNat_or, ofInt_nat, ofInt_nat]
    have e1 : (b * 8 % 18446744073709551616).toNat = 2 ^ 3 * (b % 2305843009213693952).toNat := by omega
    have e2 : (t % 18446744073709551616).toNat = t.toNat := by omega
    rw [e1, e2, Nat.two_pow_add_eq_or_of_lt (by omega)]
  rw [e, hw, h]
  simp [IntKind.wrap, IntKind.signed, IntKind.bits]
  omega

theorem join_any (b t : Int) (w : World) (h1 : -1152921504606846976 ≤ b) (h2 : b ≤ 1152921504606846975) (t1 : 0 ≤ t) (t2 : t < 8) :
    Calls Try.prog 13 #[.int .i64 b, .int .i64 t] w fun e w' => e = .returned (.int .i64 (b * 8 + t)) ∧ w' = w := by
  have H := hid_mk (or_tag b t h1 h2 t1 t2)
  clear h1 h2 t1 t2
  go_enter Try.func13, Try.ntmps13
  go_wp2
  go_ret
  exact ⟨ret_int H.out, rfl⟩

theorem ret_tup {a b c d : Int} (h1 : a = c) (h2 : b = d) : Ending.returned (.tuple #[.int .i64 a, .int .i64 b]) = .returned (.tuple #[.int .i64 c, .int .i64 d]) := by rw [h1, h2]
theorem split_any (v : Int) (w : World) :
    Calls Try.prog 14 #[.int .i64 v] w fun e w' => e = .returned (.tuple #[.int .i64 (v / 8), .int .i64 (v % 8)]) ∧ w' = w := by
  have H := hid_mk (and_seven v)
  go_enter Try.func14, Try.ntmps14
  go_wp2
  go_ret2
  exact ⟨ret_tup rfl (by first | rfl | exact H.out), rfl⟩


theorem isScalar_any (n : Int) (w : World) :
    Calls Try.prog 17 #[.int .i64 n] w fun e w' => e = .returned (.bool (scalarB n)) ∧ w' = w := by
  go_enter Try.func17, Try.ntmps17
  go_wp2_with (go_at_call 20; refine calls_same (validRune_any _ _) ?_)
  all_goals go_ret
  all_goals refine ⟨ret_bool ?_, rfl⟩
  · rename_i h
    have e : wrap32 n = n := by unfold wrap32 wrap64 at *; omega
    rw [e]
  · rename_i h
    unfold scalarB
    symm; rw [decide_eq_false_iff_not]
    unfold wrap32 wrap64 at *; omega
end Go.Proofs.Ytghgpnadikjblab
