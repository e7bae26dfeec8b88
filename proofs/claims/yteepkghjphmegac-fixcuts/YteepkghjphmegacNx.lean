/- the pattern with the other sign, by its bits -/
import Derived.Test.YteepkghjphmegacNu
namespace Go.Proofs.Yteepkghjphmegac
open Go.ChangeShapes Go.WideShapes Go.ChangeAt Go.RowKit
set_option linter.unusedVariables false
set_option linter.unusedSimpArgs false
theorem xor_top (x : BitVec 64) : x ^^^ BitVec.twoPow 64 63 = x + BitVec.twoPow 64 63 := by
  apply BitVec.eq_of_getLsbD_eq
  intro i hi
  rw [BitVec.getLsbD_add hi, BitVec.getLsbD_xor]
  have hc : BitVec.carry i x (BitVec.twoPow 64 63) false = false := by
    unfold BitVec.carry
    rw [decide_eq_false_iff_not]
    have h1 : (BitVec.twoPow 64 63).toNat % 2 ^ i = 0 := by
      rw [BitVec.toNat_twoPow]
      have : (2 : Nat) ^ 63 % 2 ^ 64 = 2 ^ 63 := by decide
      rw [this]
      obtain ⟨d, hd⟩ : ∃ d, 63 = i + d := ⟨63 - i, by omega⟩
      rw [hd, Nat.pow_add]; exact Nat.mul_mod_right _ _
    have h2 : x.toNat % 2 ^ i < 2 ^ i := Nat.mod_lt _ (Nat.two_pow_pos i)
    rw [h1]; simp; omega
  rw [hc]; simp
theorem xor_sign (b : Int) (h1 : -9223372036854775808 ≤ b) (h2 : b ≤ 9223372036854775807) : bits .xor .i64 b (-9223372036854775808) = flipV b := by
  have e : bits .xor .i64 b (-9223372036854775808) = IntKind.wrap .i64 ((BitVec.ofInt 64 b ^^^ BitVec.ofInt 64 (-9223372036854775808)).toNat : Nat) := rfl
  have h : BitVec.ofInt 64 b ^^^ BitVec.ofInt 64 (-9223372036854775808) = BitVec.ofInt 64 b + BitVec.ofInt 64 (-9223372036854775808) := by
    generalize BitVec.ofInt 64 b = x
    have : BitVec.ofInt 64 (-9223372036854775808) = BitVec.twoPow 64 63 := by decide
    rw [this]
    exact xor_top x
  rw [e, h, ← BitVec.ofInt_add, ofInt_nat]
  unfold flipV wrap64
  simp [IntKind.wrap, IntKind.signed, IntKind.bits]
  omega
end Go.Proofs.Yteepkghjphmegac
