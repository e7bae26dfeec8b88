/- hash: plain mathematics, the leaves -/
import Derived.Test.YtjboogfbdgbfbaaRows
import Derived.WalkKit
import Derived.ProofKit
import Derived.OpenShut
import Derived.OwnWalk
namespace Go.Proofs.Ytjboogfbdgbfbaa
open Go.ChangeShapes Go.WideShapes Go.ChangeAt Go.RowKit
set_option linter.unusedVariables false
set_option linter.unusedSimpArgs false

theorem ret_int {k : IntKind} {a b : Int} (h : a = b) : Ending.returned (.int k a) = .returned (.int k b) := by rw [h]
theorem ret_bool {a b : Bool} (h : a = b) : Ending.returned (.bool a) = .returned (.bool b) := by rw [h]
theorem calls_same {P : Program} {f : FuncId} {args : Array Value} {w : World} {v : Value} {K : Ending → World → Prop} (h : Calls P f args w (fun e w' => e = .returned v ∧ w' = w)) (hk : K (.returned v) w) : Calls P f args w K :=
  h.mono (by rintro e w' ⟨rfl, rfl⟩; exact hk)
theorem hid_mk {p : Prop} (h : p) : Hid p := h
theorem i64_bounds {v : Int} (h : (Lit.int .i64 v).wf = true) : -9223372036854775808 ≤ v ∧ v ≤ 9223372036854775807 := by
  simpa [Lit.wf, IntKind.min, IntKind.max, IntKind.signed, IntKind.bits] using h
theorem wrap_in (v : Int) (h1 : -9223372036854775808 ≤ v) (h2 : v ≤ 9223372036854775807) : wrap64 v = v := by unfold wrap64; omega
theorem ofInt_nat (b : Int) : (BitVec.ofInt 64 b).toNat = (b % 18446744073709551616).toNat := by
  rw [BitVec.toNat_ofInt]; rfl

/-- so many heads has a spine -/
def Cap (n : Int) : Prop := n = 4 ∨ n = 8 ∨ n = 16 ∨ n = 32 ∨ n = 64 ∨ n = 128 ∨ n = 256 ∨ n = 512
instance (n : Int) : Decidable (Cap n) := by unfold Cap; infer_instance
def capB (n : Int) : Bool := decide (Cap n)
theorem cap_true {n : Int} (h : Cap n) : capB n = true := decide_eq_true h
theorem cap_false {n : Int} (h : ¬Cap n) : capB n = false := decide_eq_false h
theorem cap_tab : ∀ k : Fin 513, 4 ≤ k.val → (bits .and .i64 (k.val : Int) ((k.val : Int) - 1) == 0) = capB (k.val : Int) := by decide +kernel
theorem cap_mid {n : Int} (h1 : 4 ≤ n) (h2 : n ≤ 512) : (bits .and .i64 n (n - 1) == 0) = capB n := by
  have := cap_tab ⟨n.toNat, by omega⟩ (by show 4 ≤ n.toNat; omega)
  have e : ((n.toNat : Nat) : Int) = n := by omega
  simpa [e] using this
theorem isCap_any (n : Int) (w : World) : Calls Try.prog 18 #[.int .i64 n] w fun e w' => e = .returned (.bool (capB n)) ∧ w' = w := by
  by_cases h1 : 4 ≤ n
  · by_cases h2 : n ≤ 512
    · have e := cap_mid h1 h2
      have e2 : wrap64 (n - 1) = n - 1 := wrap_in _ (by omega) (by omega)
      go_enter Try.func18, Try.ntmps18
      go_wp2
      go_ret
      exact ⟨rfl, rfl⟩
    · have e : capB n = false := cap_false (by unfold Cap; omega)
      rw [e]; clear e
      go_enter Try.func18, Try.ntmps18
      go_wp2
      go_ret
      exact ⟨rfl, rfl⟩
  · have e : capB n = false := cap_false (by unfold Cap; omega)
    rw [e]; clear e
    go_enter Try.func18, Try.ntmps18
    go_wp2
    go_ret
    exact ⟨rfl, rfl⟩

theorem canDouble_any (n : Int) (w : World) : Calls Try.prog 20 #[.int .i64 n] w fun e w' => e = .returned (.bool (capB n && decide (n < 512))) ∧ w' = w := by
  have C := hid_mk (isCap_any n)
  generalize capB n = b at *
  cases b
  · go_enter Try.func20, Try.ntmps20
    go_wp2_with (go_at_call 18; refine calls_same (C.out _) ?_)
    go_ret
    exact ⟨rfl, rfl⟩
  · go_enter Try.func20, Try.ntmps20
    go_wp2_with (go_at_call 18; refine calls_same (C.out _) ?_)
    go_ret
    exact ⟨rfl, rfl⟩

theorem and_mask (b : Int) (k : Nat) (m : Int) (hm : (BitVec.ofInt 64 m).toNat = 2 ^ k - 1) (hk : (2 : Int) ^ k ∣ 18446744073709551616) (h63 : (2 : Int) ^ k ≤ 9223372036854775808) : bits .and .i64 b m = b % 2 ^ k := by
  have h : (BitVec.ofInt 64 b &&& BitVec.ofInt 64 m).toNat = (b % 18446744073709551616).toNat % 2 ^ k := by
    rw [BitVec.toNat_and, hm, Nat.and_two_pow_sub_one_eq_mod, ofInt_nat]
  have e : bits .and .i64 b m = IntKind.wrap .i64 ((BitVec.ofInt 64 b &&& BitVec.ofInt 64 m).toNat : Nat) := rfl
  have hp : (0 : Int) < 2 ^ k := Int.pow_pos (by decide)
  have e2 : (((b % 18446744073709551616).toNat % 2 ^ k : Nat) : Int) = b % 2 ^ k := by
    rw [Int.natCast_emod, Int.toNat_of_nonneg (Int.emod_nonneg _ (by decide)), Int.natCast_pow]
    exact Int.emod_emod_of_dvd b hk
  have r1 := Int.emod_nonneg b (Int.ne_of_gt hp)
  have r2 := Int.emod_lt_of_pos b hp
  rw [e, h, e2]
  generalize b % 2 ^ k = z at *
  generalize (2 : Int) ^ k = p at *
  simp [IntKind.wrap, IntKind.signed, IntKind.bits]
  omega
theorem and_cap {c : Int} (h : Cap c) (b : Int) : bits .and .i64 b (c - 1) = b % c := by
  rcases h with rfl | rfl | rfl | rfl | rfl | rfl | rfl | rfl
  · exact and_mask b 2 3 (by decide) (by decide) (by decide)
  · exact and_mask b 3 7 (by decide) (by decide) (by decide)
  · exact and_mask b 4 15 (by decide) (by decide) (by decide)
  · exact and_mask b 5 31 (by decide) (by decide) (by decide)
  · exact and_mask b 6 63 (by decide) (by decide) (by decide)
  · exact and_mask b 7 127 (by decide) (by decide) (by decide)
  · exact and_mask b 8 255 (by decide) (by decide) (by decide)
  · exact and_mask b 9 511 (by decide) (by decide) (by decide)
theorem xor_mask (b : Int) (k : Nat) (hk : (2 : Int) ^ k ∣ 18446744073709551616) (hk' : (2 ^ k : Nat) ∣ 18446744073709551616) (h63 : k < 63) (hc : (BitVec.ofInt 64 ((2 : Int) ^ k)).toNat = 2 ^ k) : bits .xor .i64 b ((2 : Int) ^ k) % 2 ^ k = b % 2 ^ k := by
  have e : bits .xor .i64 b ((2 : Int) ^ k) = IntKind.wrap .i64 ((BitVec.ofInt 64 b ^^^ BitVec.ofInt 64 ((2 : Int) ^ k)).toNat : Nat) := rfl
  have h : (BitVec.ofInt 64 b ^^^ BitVec.ofInt 64 ((2 : Int) ^ k)).toNat % 2 ^ k = (b % 18446744073709551616).toNat % 2 ^ k := by
    rw [BitVec.toNat_xor, hc, Nat.xor_mod_two_pow, Nat.mod_self, Nat.xor_zero, ofInt_nat]
  have e2 : (((b % 18446744073709551616).toNat % 2 ^ k : Nat) : Int) = b % 2 ^ k := by
    rw [Int.natCast_emod, Int.toNat_of_nonneg (Int.emod_nonneg _ (by decide)), Int.natCast_pow]
    exact Int.emod_emod_of_dvd b hk
  have ew : ∀ z : Int, IntKind.wrap .i64 z % 18446744073709551616 = z % 18446744073709551616 := by
    intro z; simp [IntKind.wrap, IntKind.signed, IntKind.bits]
    omega
  have ew2 : ∀ z : Int, IntKind.wrap .i64 z % 2 ^ k = z % 2 ^ k := by
    intro z
    rw [← Int.emod_emod_of_dvd _ hk, ew, Int.emod_emod_of_dvd _ hk]
  rw [e, ew2, ← e2, ← h]
  simp
theorem xor_cap {c : Int} (h : Cap c) (b : Int) : bits .xor .i64 b c % c = b % c := by
  rcases h with rfl | rfl | rfl | rfl | rfl | rfl | rfl | rfl
  · exact xor_mask b 2 (by decide) (by decide) (by decide) (by decide)
  · exact xor_mask b 3 (by decide) (by decide) (by decide) (by decide)
  · exact xor_mask b 4 (by decide) (by decide) (by decide) (by decide)
  · exact xor_mask b 5 (by decide) (by decide) (by decide) (by decide)
  · exact xor_mask b 6 (by decide) (by decide) (by decide) (by decide)
  · exact xor_mask b 7 (by decide) (by decide) (by decide) (by decide)
  · exact xor_mask b 8 (by decide) (by decide) (by decide) (by decide)
  · exact xor_mask b 9 (by decide) (by decide) (by decide) (by decide)
theorem cap_pos {c : Int} (h : Cap c) : 4 ≤ c ∧ c ≤ 512 := by unfold Cap at h; omega

/-- which head -/
def slotV (h c : Int) : Int := if capB c then h % c else -1
/-- how many heads next -/
def headsV (c : Int) : Int := if c = 0 then 4 else if capB c && decide (c < 512) then 2 * c else 0
def growsB (n c : Int) : Bool := decide (c = 0) || (capB c && decide (c < 512) && decide (2 * c ≤ n))
theorem slot_any (h c : Int) (w : World) : Calls Try.prog 11 #[.int .i64 h, .int .i64 c] w fun e w' => e = .returned (.int .i64 (slotV h c)) ∧ w' = w := by
  have C := hid_mk (isCap_any c)
  by_cases hc : Cap c
  · have e : slotV h c = h % c := by unfold slotV; rw [cap_true hc]; rfl
    rw [cap_true hc] at C
    have e1 := and_cap hc h
    obtain ⟨r1, r2⟩ := cap_pos hc
    have e2 : wrap64 (c - 1) = c - 1 := wrap_in _ (by omega) (by omega)
    rw [e]
    clear e hc
    go_enter Try.func11, Try.ntmps11
    go_wp2_with (go_at_call 18; refine calls_same (C.out _) ?_)
    go_ret
    exact ⟨rfl, rfl⟩
  · have e : slotV h c = -1 := by unfold slotV; rw [cap_false hc]; rfl
    rw [cap_false hc] at C
    rw [e]
    clear e hc
    go_enter Try.func11, Try.ntmps11
    go_wp2_with (go_at_call 18; refine calls_same (C.out _) ?_)
    go_ret
    exact ⟨rfl, rfl⟩
theorem heads_any (c : Int) (w : World) : Calls Try.prog 13 #[.int .i64 c] w fun e w' => e = .returned (.int .i64 (headsV c)) ∧ w' = w := by
  have C := hid_mk (canDouble_any c)
  by_cases h0 : c = 0
  · subst h0
    go_enter Try.func13, Try.ntmps13
    go_wp2
    go_ret
    exact ⟨rfl, rfl⟩
  · have e0 : (c == 0) = false := by simpa using h0
    have e : headsV c = if capB c && decide (c < 512) then 2 * c else 0 := by unfold headsV; rw [if_neg h0]
    rw [e]; clear e
    cases hb : (capB c && decide (c < 512))
    · rw [hb] at C
      clear hb
      go_enter Try.func13, Try.ntmps13
      go_wp2_with (go_at_call 20; refine calls_same (C.out _) ?_)
      go_ret
      exact ⟨rfl, rfl⟩
    · rw [hb] at C
      have hc : Cap c := by
        have := (Bool.and_eq_true_iff.1 hb).1
        exact of_decide_eq_true this
      obtain ⟨r1, r2⟩ := cap_pos hc
      have e2 : wrap64 (c * 2) = 2 * c := by rw [wrap_in _ (by omega) (by omega)]; omega
      clear hb hc
      go_enter Try.func13, Try.ntmps13
      go_wp2_with (go_at_call 20; refine calls_same (C.out _) ?_)
      go_ret
      exact ⟨ret_int (Int.mul_comm c 2), rfl⟩
theorem grows_any (n c : Int) (w : World) : Calls Try.prog 15 #[.int .i64 n, .int .i64 c] w fun e w' => e = .returned (.bool (growsB n c)) ∧ w' = w := by
  have C := hid_mk (canDouble_any c)
  by_cases h0 : c = 0
  · subst h0
    have e : growsB n 0 = true := by unfold growsB; simp
    rw [e]; clear e
    go_enter Try.func15, Try.ntmps15
    go_wp2
    go_ret
    exact ⟨rfl, rfl⟩
  · have e0 : (c == 0) = false := by simpa using h0
    have e : growsB n c = (capB c && decide (c < 512) && decide (2 * c ≤ n)) := by unfold growsB; simp [h0]
    rw [e]; clear e
    cases hb : (capB c && decide (c < 512))
    · rw [hb] at C
      clear hb
      go_enter Try.func15, Try.ntmps15
      go_wp2_with (go_at_call 20; refine calls_same (C.out _) ?_)
      go_ret
      exact ⟨rfl, rfl⟩
    · rw [hb] at C
      have hc : Cap c := by
        have := (Bool.and_eq_true_iff.1 hb).1
        exact of_decide_eq_true this
      obtain ⟨r1, r2⟩ := cap_pos hc
      have e2 : wrap64 (2 * c) = 2 * c := by rw [wrap_in _ (by omega) (by omega)]
      clear hb hc
      go_enter Try.func15, Try.ntmps15
      go_wp2_with (go_at_call 20; refine calls_same (C.out _) ?_)
      all_goals go_ret
      all_goals exact ⟨rfl, rfl⟩
end Go.Proofs.Ytjboogfbdgbfbaa
