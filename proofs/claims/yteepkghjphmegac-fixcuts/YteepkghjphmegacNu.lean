/- the bits of patterns -/
import Derived.Test.YteepkghjphmegacM1
namespace Go.Proofs.Yteepkghjphmegac
open Go.ChangeShapes Go.WideShapes Go.ChangeAt Go.RowKit
set_option linter.unusedVariables false
set_option linter.unusedSimpArgs false
theorem ofInt_nat (b : Int) : (BitVec.ofInt 64 b).toNat = (b % 18446744073709551616).toNat := by
  rw [BitVec.toNat_ofInt]; rfl
theorem mask_nat : (BitVec.ofInt 64 9223372036854775807).toNat = 2 ^ 63 - 1 := by decide
theorem and_mask (b : Int) : bits .and .i64 b 9223372036854775807 = rg b := by
  have h : (BitVec.ofInt 64 b &&& BitVec.ofInt 64 9223372036854775807).toNat = (b % 18446744073709551616).toNat % 9223372036854775808 := by
    rw [BitVec.toNat_and, mask_nat, Nat.and_two_pow_sub_one_eq_mod, ofInt_nat]
  have e : bits .and .i64 b 9223372036854775807 = IntKind.wrap .i64 ((BitVec.ofInt 64 b &&& BitVec.ofInt 64 9223372036854775807).toNat : Nat) := rfl
  rw [e, h]
  unfold rg
  simp [IntKind.wrap, IntKind.signed, IntKind.bits]
  omega
theorem or_zero (a b : Int) : (rg (bits .or .i64 a b) = 0) ↔ (rg a = 0 ∧ rg b = 0) := by
  have e : bits .or .i64 a b = IntKind.wrap .i64 ((BitVec.ofInt 64 a ||| BitVec.ofInt 64 b).toNat : Nat) := rfl
  have h : (BitVec.ofInt 64 a ||| BitVec.ofInt 64 b).toNat = (a % 18446744073709551616).toNat ||| (b % 18446744073709551616).toNat := by
    rw [BitVec.toNat_or, ofInt_nat, ofInt_nat]
  have hm : ((a % 18446744073709551616).toNat ||| (b % 18446744073709551616).toNat) % 2 ^ 63 = ((a % 18446744073709551616).toNat % 2 ^ 63) ||| ((b % 18446744073709551616).toNat % 2 ^ 63) := Nat.or_mod_two_pow
  have hw : rg (bits .or .i64 a b) = (((a % 18446744073709551616).toNat ||| (b % 18446744073709551616).toNat) % 2 ^ 63 : Nat) := by
    rw [e, h]
    generalize (a % 18446744073709551616).toNat ||| (b % 18446744073709551616).toNat = n
    unfold rg
    simp [IntKind.wrap, IntKind.signed, IntKind.bits]
    omega
  rw [hw, hm]
  have hz : ∀ x y : Nat, (((x ||| y : Nat)) : Int) = 0 ↔ x = 0 ∧ y = 0 := by
    intro x y
    rw [← Nat.or_eq_zero_iff]; omega
  rw [hz]
  unfold rg
  have p63 : (2 : Nat) ^ 63 = 9223372036854775808 := by decide
  rw [p63]
  omega
theorem calls_same {P : Program} {f : FuncId} {args : Array Value} {w : World} {v : Value} {K : Ending → World → Prop} (h : Calls P f args w (fun e w' => e = .returned v ∧ w' = w)) (hk : K (.returned v) w) : Calls P f args w K :=
  h.mono (by rintro e w' ⟨rfl, rfl⟩; exact hk)
theorem number_any (b : Int) (w : World) : Calls Try.prog 13 #[.int .i64 b] w fun e w' => e = .returned (.bool (!pNone b)) ∧ w' = w := by
  have hm := hid_mk (and_mask b)
  go_enter Try.func13, Try.ntmps13
  go_wp2
  go_ret
  refine ⟨ret_bool ?_, rfl⟩
  rw [hm.out]
  unfold pNone
  rw [Bool.eq_iff_iff]; simp
end Go.Proofs.Yteepkghjphmegac
