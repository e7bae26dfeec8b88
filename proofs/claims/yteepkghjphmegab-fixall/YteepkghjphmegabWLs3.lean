/- the walks of Ls3 -/
import Derived.Test.YteepkghjphmegabWLs2
namespace Go.Proofs.Yteepkghjphmegab
open Go.ChangeShapes Go.WideShapes Go.ChangeAt Go.RowKit
set_option linter.unusedVariables false
set_option linter.unusedSimpArgs false

theorem sum_bits (A B : Int) (k : Nat) :
    (1 < bit A k + bit B k + carry A B k ∧ bit (A + B) k = bit A k + bit B k + carry A B k - 2 ∧ carry A B (k + 1) = 1) ∨
    (¬ 1 < bit A k + bit B k + carry A B k ∧ bit (A + B) k = bit A k + bit B k + carry A B k ∧ carry A B (k + 1) = 0) := by
  have h1 := bit_add A B k
  have h2 := carry_succ A B k
  have h3 := bit_01 A k
  have h4 := bit_01 B k
  have h5 := carry_01 A B k
  omega

/-- what is carried into column i of a difference -/
def carryS (a b : Int) (i : Nat) : Int := (a % 2 ^ i - b % 2 ^ i) / 2 ^ i
theorem carryS_01 (a b : Int) (i : Nat) : -1 ≤ carryS a b i ∧ carryS a b i ≤ 0 := by
  have hp := pow_pos' i
  have h1 := Int.emod_nonneg a (Int.ne_of_gt hp)
  have h2 := Int.emod_nonneg b (Int.ne_of_gt hp)
  have h3 := Int.emod_lt_of_pos a hp
  have h4 := Int.emod_lt_of_pos b hp
  unfold carryS
  have l : -1 ≤ (a % 2 ^ i - b % 2 ^ i) / 2 ^ i := Int.le_ediv_of_mul_le hp (by omega)
  have u : (a % 2 ^ i - b % 2 ^ i) / 2 ^ i < 1 := Int.ediv_lt_of_lt_mul hp (by omega)
  omega
theorem div_sub' (a b : Int) (i : Nat) : (a - b) / 2 ^ i = a / 2 ^ i - b / 2 ^ i + carryS a b i := by
  have hp := pow_pos' i
  have h1 := Int.mul_ediv_add_emod a (2 ^ i)
  have h2 := Int.mul_ediv_add_emod b (2 ^ i)
  have e : a - b = (a % 2 ^ i - b % 2 ^ i) + 2 ^ i * (a / 2 ^ i - b / 2 ^ i) := by rw [Int.mul_sub]; omega
  rw [e, Int.add_mul_ediv_left _ _ (Int.ne_of_gt hp)]
  unfold carryS; omega
theorem bit_sub (a b : Int) (i : Nat) : (bit a i - bit b i + carryS a b i) % 2 = bit (a - b) i := by
  unfold bit; rw [div_sub']; omega
theorem carryS_succ (a b : Int) (i : Nat) : (bit a i - bit b i + carryS a b i) / 2 = carryS a b (i + 1) := by
  have hp := pow_pos' i
  have e : carryS a b (i + 1) = (a % 2 ^ i - b % 2 ^ i + 2 ^ i * (bit a i - bit b i)) / 2 ^ (i + 1) := by
    unfold carryS; rw [mod_succ, mod_succ, Int.mul_sub]; congr 1; omega
  rw [e, Int.pow_succ, ← Int.ediv_ediv_of_nonneg (by omega), Int.add_mul_ediv_left _ _ (Int.ne_of_gt hp)]
  unfold carryS; omega
theorem carryS_zero (a b : Int) : carryS a b 0 = 0 := by unfold carryS; simp [Int.emod_one]
theorem diff_bits (A B : Int) (k : Nat) :
    (bit A k - bit B k + carryS A B k < 0 ∧ bit (A - B) k = bit A k - bit B k + carryS A B k + 2 ∧ carryS A B (k + 1) = -1) ∨
    (¬ bit A k - bit B k + carryS A B k < 0 ∧ bit (A - B) k = bit A k - bit B k + carryS A B k ∧ carryS A B (k + 1) = 0) := by
  have h1 := bit_sub A B k
  have h2 := carryS_succ A B k
  have h3 := bit_01 A k
  have h4 := bit_01 B k
  have h5 := carryS_01 A B k
  omega

theorem one_cell (w : World) (x : Value) (t : TypeId) : ∀ j u, [x][j]? = some u → (w.alloc (.cells #[x] t)).cell? ((⟨w.heap.size, 0, none⟩ : Addr).add j) = some u := by
  intro j u hj
  match j, hj with
  | 0, hj => simp at hj; subst hj; simp [Addr.add]
theorem one_one (k : IntKind) (x : Int) : ∀ u ∈ [Value.int k x], u.oneCell' = true := by intro u hu; simp at hu; subst hu; rfl
/-- behind an append: the slice is one, owned, and all old memory is as it was -/
theorem append_rel {w wr w2 : World} {v v' : Value} {k : Nat} {N x : Int} {o : Obj} (hown : wr.ownsRow w.heap.size 3 1 v k (rowL N k)) (hB : Below w.heap.size w wr) (hx : x = bit N k)
    (hown' : w2.ownsRow w.heap.size 3 1 v' (k + 1) (rowL N k ++ [.int .i64 x])) (hgrow : (wr.alloc o).grownBy w2 v.ownBlock) :
    w2.ownsRow w.heap.size 3 1 v' (k + 1) (rowL N (k + 1)) ∧ Below w.heap.size w w2 := by
  subst hx
  have hsz := hB.size
  exact ⟨by rw [rowL_succ]; exact hown', (hB.alloc hsz _).grown hgrow (by simp; omega) (fun j hj => (hown.lt j hj).1)⟩
theorem own_some {W : World} {B k : Nat} {v : Value} {xs : List Value} (h : W.ownsRow B 3 1 v k xs) (hk : 0 < k) : ∃ g cap, v = .slice (some ⟨g, 0, none⟩) k cap := by
  rcases h.2 with ⟨e, h⟩ | ⟨g', cap', cur', e, _⟩
  · omega
  · exact ⟨g', cap', e⟩
theorem append1 {ops : Array Oper} {rest : List Oper} {o : Oper} {a : Act} {w wr : World} {Q : Exit → Act → World → Prop} {v : Value} {n : Nat} {N y : Int} (hgd : o.guard = none) (s x : Operand)
    (ho : o.op = .call { callee := .builtin .append, args := #[s, x], argTypes := #[37, 37] }) (hs : a.eval s = v) (hx : a.eval x = .slice (some ⟨wr.heap.size, 0, none⟩) 1 1)
    (hown : wr.ownsRow w.heap.size 3 1 v n (rowL N n)) (hB : Below w.heap.size w wr) (hn : n ≤ 1000000) (hy : y = bit N n)
    (h : ∀ v' w2, w2.ownsRow w.heap.size 3 1 v' (n + 1) (rowL N (n + 1)) → Below w.heap.size w w2 → wpList Try.prog ops Q rest (a.put o.dst v') w2) :
    wpList Try.prog ops Q (o :: rest) a (wr.alloc (.cells #[.int .i64 y] 3)) := by
  obtain ⟨i0, hi, hz0, hz1, hz2⟩ := info_parts info3
  have hsz := hB.size
  refine wpList_append_own _ hgd s x 37 ho w.heap.size 3 i0 (.int .i64 0) 1 8 Try.underlying37 hi hz0 hz1 hz2 rfl (by decide) v n _ hs (hown.alloc _) ⟨wr.heap.size, 0, none⟩ 1 1 [.int .i64 y] hx rfl (one_cell _ _ _) (one_one _ _) (by unfold maxLen; omega) (by omega) (by simp; omega) ?_
  intro v' w2 hown' hgrow hnil
  have R := append_rel hown hB hy hown' hgrow
  exact h v' w2 R.1 R.2
theorem calls_same {P : Program} {f : FuncId} {args : Array Value} {w : World} {v : Value} {K : Ending → World → Prop} (h : Calls P f args w (fun e w' => e = .returned v ∧ w' = w)) (hk : K (.returned v) w) : Calls P f args w K :=
  h.mono (by rintro e w' ⟨rfl, rfl⟩; exact hk)
theorem max_cast (a b : Nat) : max (a : Int) (b : Int) = ((max a b : Nat) : Int) := by omega

set_option maxHeartbeats 2000000 in
theorem refSum_any (va vb : Value) (A B : Int) (la lb Ba Bb : Nat) (w : World) (ha : BL w Ba va A la) (hb : BL w Bb vb B lb) (h1 : la ≤ 100000) (h2 : lb ≤ 100000) :
    Calls Try.prog 69 #[va, vb, .bool false] w fun e w' => ∃ v, e = .returned v ∧ BL w' w.heap.size v (A + B) (max la lb + 1) ∧ Below w.heap.size w w' := by
  obtain ⟨i0, hi, hz0, hz1, hz2⟩ := info_parts info3
  obtain ⟨ga, ca, rfl⟩ := ha.some
  obtain ⟨gb, cb, rfl⟩ := hb.some
  have hA := ha.lo
  have hB := hb.lo
  have hA2 : A < 2 ^ max la lb := Int.lt_of_lt_of_le ha.hi (pow_le_pow (by omega))
  have hB2 : B < 2 ^ max la lb := Int.lt_of_lt_of_le hb.hi (pow_le_pow (by omega))
  have HN : Hid (A + B < 2 ^ (max la lb + 1)) := by show A + B < 2 ^ (max la lb + 1); rw [pow_succ']; omega
  clear hA2 hB2
  obtain ⟨M, hM⟩ : ∃ M, M = max la lb := ⟨_, rfl⟩
  have hM1 : M ≤ 100000 := by omega
  have HM : Hid (M = max la lb) := hM
  have hmx : max (la : Int) (lb : Int) = (M : Int) := by omega
  rw [← hM]
  rw [← hM] at HN
  clear hM
  go_enter Try.func69, Try.ntmps69
  go_wp2
  go_loopw [7, 8, 9] (fun l c i wr => ∃ k : Nat, k ≤ M + 1 ∧ i = .int .i64 k ∧ c = .int .i64 (carry A B k) ∧ wr.ownsRow w.heap.size 3 1 l k (rowL (A + B) k) ∧ Below w.heap.size w wr) (fun _ _ i _ => M + 1 - (intOf i).toNat)
  case atStart => exact ⟨0, by omega, rfl, by rw [carry_zero], World.ownsRow_nil _ _ _ _, Below.refl _ _⟩
  case round =>
    obtain ⟨k, hk, rfl, rfl, hown, hBe⟩ := hrel
    have ha' := ha.kept hBe
    have hb' := hb.kept hBe
    have hsz := hBe.size
    obtain ⟨a0, a1⟩ := bit_01 A k
    obtain ⟨b0, b1⟩ := bit_01 B k
    obtain ⟨c0, c1⟩ := carry_01 A B k
    have eA : atV A (k : Int) = bit A k := by simp [atV]; intro h; omega
    have eB : atV B (k : Int) = bit B k := by simp [atV]; intro h; omega
    by_cases hlt : k ≤ M
    · rcases sum_bits A B k with ⟨s1, s2, s3⟩ | ⟨s1, s2, s3⟩
      all_goals
        have S2 := hid_mk s2
        have S3 := hid_mk s3
        clear s2 s3
        go_wp2_with (first
          | (go_at_call 42; first | (refine calls_same (refAt_any _ Ba _ A la _ ha') ?_; rw [eA]) | (refine calls_same (refAt_any _ Bb _ B lb _ hb') ?_; rw [eB]))
          | (at_builtin; refine append1 (N := A + B) (n := k) (w := w) (wr := wr) rfl _ _ rfl rfl rfl hown hBe (by omega) S2.out.symm ?_; intro v' w2 R1 R2))
        go_roundw
        case rel => exact ⟨k + 1, by omega, by go_num, congrArg (Value.int .i64) S3.out.symm, R1, R2⟩
        case measure => simp [intOf]; omega
    · have hkM : Hid (k = M + 1) := by show k = M + 1; omega
      have hneg : ¬ (k : Int) ≤ (M : Int) := by omega
      clear ha' hb' eA eB a0 a1 b0 b1 c0 c1
      go_wp2
      all_goals go_ret
      all_goals
        obtain rfl := hkM.out
        obtain ⟨g, cap, e⟩ := own_some hown (by omega)
        exact ⟨_, rfl, ⟨by omega, HN.out, ⟨g, cap, e⟩, hown⟩, hBe⟩
set_option maxHeartbeats 2000000 in
theorem refDiff_any (va vb : Value) (A B : Int) (la lb Ba Bb : Nat) (w : World) (ha : BL w Ba va A la) (hb : BL w Bb vb B lb) (h1 : la ≤ 100000) (h2 : lb ≤ 100000) (hAB : B ≤ A) :
    Calls Try.prog 69 #[va, vb, .bool true] w fun e w' => ∃ v, e = .returned v ∧ BL w' w.heap.size v (A - B) (max la lb + 1) ∧ Below w.heap.size w w' := by
  obtain ⟨i0, hi, hz0, hz1, hz2⟩ := info_parts info3
  obtain ⟨ga, ca, rfl⟩ := ha.some
  obtain ⟨gb, cb, rfl⟩ := hb.some
  have hA := ha.lo
  have hB := hb.lo
  have hA2 : A < 2 ^ max la lb := Int.lt_of_lt_of_le ha.hi (pow_le_pow (by omega))
  have hB2 : B < 2 ^ max la lb := Int.lt_of_lt_of_le hb.hi (pow_le_pow (by omega))
  have HN : Hid (A - B < 2 ^ (max la lb + 1)) := by show A - B < 2 ^ (max la lb + 1); rw [pow_succ']; omega
  clear hA2 hB2
  obtain ⟨M, hM⟩ : ∃ M, M = max la lb := ⟨_, rfl⟩
  have hM1 : M ≤ 100000 := by omega
  have HM : Hid (M = max la lb) := hM
  have hmx : max (la : Int) (lb : Int) = (M : Int) := by omega
  rw [← hM]
  rw [← hM] at HN
  clear hM
  go_enter Try.func69, Try.ntmps69
  go_wp2
  go_loopw [7, 8, 9] (fun l c i wr => ∃ k : Nat, k ≤ M + 1 ∧ i = .int .i64 k ∧ c = .int .i64 (carryS A B k) ∧ wr.ownsRow w.heap.size 3 1 l k (rowL (A - B) k) ∧ Below w.heap.size w wr) (fun _ _ i _ => M + 1 - (intOf i).toNat)
  case atStart => exact ⟨0, by omega, rfl, by rw [carryS_zero], World.ownsRow_nil _ _ _ _, Below.refl _ _⟩
  case round =>
    obtain ⟨k, hk, rfl, rfl, hown, hBe⟩ := hrel
    have ha' := ha.kept hBe
    have hb' := hb.kept hBe
    have hsz := hBe.size
    obtain ⟨a0, a1⟩ := bit_01 A k
    obtain ⟨b0, b1⟩ := bit_01 B k
    obtain ⟨c0, c1⟩ := carryS_01 A B k
    have eA : atV A (k : Int) = bit A k := by simp [atV]; intro h; omega
    have eB : atV B (k : Int) = bit B k := by simp [atV]; intro h; omega
    by_cases hlt : k ≤ M
    · rcases diff_bits A B k with ⟨s1, s2, s3⟩ | ⟨s1, s2, s3⟩
      all_goals
        have S2 := hid_mk s2
        have S3 := hid_mk s3
        clear s2 s3
        go_wp2_with (first
          | (go_at_call 42; first | (refine calls_same (refAt_any _ Ba _ A la _ ha') ?_; rw [eA]) | (refine calls_same (refAt_any _ Bb _ B lb _ hb') ?_; rw [eB]))
          | (at_builtin; refine append1 (N := A - B) (n := k) (w := w) (wr := wr) rfl _ _ rfl rfl rfl hown hBe (by omega) S2.out.symm ?_; intro v' w2 R1 R2))
        go_roundw
        case rel => exact ⟨k + 1, by omega, by go_num, congrArg (Value.int .i64) S3.out.symm, R1, R2⟩
        case measure => simp [intOf]; omega
    · have hkM : Hid (k = M + 1) := by show k = M + 1; omega
      have hneg : ¬ (k : Int) ≤ (M : Int) := by omega
      clear ha' hb' eA eB a0 a1 b0 b1 c0 c1
      go_wp2
      all_goals go_ret
      all_goals
        obtain rfl := hkM.out
        obtain ⟨g, cap, e⟩ := own_some hown (by omega)
        exact ⟨_, rfl, ⟨by omega, HN.out, ⟨g, cap, e⟩, hown⟩, hBe⟩

set_option maxHeartbeats 1000000 in
theorem refCompared_any (va vb : Value) (A B : Int) (la lb Ba Bb : Nat) (w : World) (ha : BL w Ba va A la) (hb : BL w Bb vb B lb) (h1 : la ≤ 100000) (h2 : lb ≤ 100000) :
    Calls Try.prog 70 #[va, vb] w fun e w' => ∃ r, e = .returned (.int .i64 r) ∧ ((A = B ∧ r = 0) ∨ (B < A ∧ r = 1) ∨ (A < B ∧ r = -1)) ∧ w' = w := by
  obtain ⟨ga, ca, rfl⟩ := ha.some
  obtain ⟨gb, cb, rfl⟩ := hb.some
  have hA := ha.lo
  have hB := hb.lo
  have hA2 : A < 2 ^ max la lb := Int.lt_of_lt_of_le ha.hi (pow_le_pow (by omega))
  have hB2 : B < 2 ^ max la lb := Int.lt_of_lt_of_le hb.hi (pow_le_pow (by omega))
  obtain ⟨M, hM⟩ : ∃ M, M = max la lb := ⟨_, rfl⟩
  have hM1 : M ≤ 100000 := by omega
  have hmx : max (la : Int) (lb : Int) = (M : Int) := by omega
  rw [← hM] at hA2 hB2
  have HS : Hid (A / 2 ^ M = B / 2 ^ M) := by
    show A / 2 ^ M = B / 2 ^ M
    rw [Int.ediv_eq_zero_of_lt hA hA2, Int.ediv_eq_zero_of_lt hB hB2]
  clear hM hA2 hB2
  by_cases hll : (la : Int) < (lb : Int)
  all_goals
    go_enter Try.func70, Try.ntmps70
    go_wp2
    go_loop [5] (fun i => ∃ k : Nat, k ≤ M ∧ i = .int .i64 ((k : Int) - 1) ∧ Hid (A / 2 ^ k = B / 2 ^ k)) (fun i => (intOf i + 1).toNat)
    case atStart => exact ⟨M, Nat.le_refl _, congrArg (Value.int .i64) (by omega), HS⟩
    case round =>
      clear HS
      obtain ⟨k, hk, rfl, HS⟩ := hrel
      by_cases hpos : 1 ≤ k
      · obtain ⟨n, rfl⟩ : ∃ n, k = n + 1 := ⟨k - 1, by omega⟩
        have ei : ((n + 1 : Nat) : Int) - 1 = (n : Int) := by omega
        rw [ei]
        clear ei
        have eA : atV A (n : Int) = bit A n := by simp [atV]; intro h; omega
        have eB : atV B (n : Int) = bit B n := by simp [atV]; intro h; omega
        obtain ⟨a0, a1⟩ := bit_01 A n
        obtain ⟨b0, b1⟩ := bit_01 B n
        by_cases hne : bit A n = bit B n
        · have HE : Hid (A / 2 ^ n = B / 2 ^ n) := by
            have := HS.out
            rw [div_succ, div_succ] at this
            unfold bit at hne
            show A / 2 ^ n = B / 2 ^ n
            omega
          have hb1 : (bit A n != bit B n) = false := by simp [hne]
          clear hne
          go_wp2_with (go_at_call 42; first | (refine calls_same (refAt_any _ Ba _ A la _ ha) ?_; rw [eA]) | (refine calls_same (refAt_any _ Bb _ B lb _ hb) ?_; rw [eB]))
          go_round
          case rel => exact ⟨n, by omega, by go_num, HE⟩
          case measure => simp [intOf] <;> omega
        · have hb1 : (bit A n != bit B n) = true := by simpa using hne
          have HD : Hid ((B < A ∧ bit A n - bit B n = 1) ∨ (A < B ∧ bit A n - bit B n = -1)) := by
            have := HS.out
            rw [div_succ, div_succ] at this
            have hp := pow_pos' n
            have e1 := Int.mul_ediv_add_emod A (2 ^ n)
            have e2 := Int.mul_ediv_add_emod B (2 ^ n)
            have e3 := Int.emod_lt_of_pos A hp
            have e4 := Int.emod_lt_of_pos B hp
            have e5 := Int.emod_nonneg A (Int.ne_of_gt hp)
            have e6 := Int.emod_nonneg B (Int.ne_of_gt hp)
            show (B < A ∧ bit A n - bit B n = 1) ∨ (A < B ∧ bit A n - bit B n = -1)
            unfold bit at *
            have hcase : A / 2 ^ n = B / 2 ^ n + 1 ∨ B / 2 ^ n = A / 2 ^ n + 1 := by omega
            rcases hcase with h | h
            · left; rw [h, Int.mul_add] at e1; omega
            · right; rw [h, Int.mul_add] at e2; omega
          clear hne
          go_wp2_with (go_at_call 42; first | (refine calls_same (refAt_any _ Ba _ A la _ ha) ?_; rw [eA]) | (refine calls_same (refAt_any _ Bb _ B lb _ hb) ?_; rw [eB]))
          go_ret
          refine ⟨_, rfl, ?_, rfl⟩
          rcases HD.out with ⟨h, e⟩ | ⟨h, e⟩
          · exact .inr (.inl ⟨h, e⟩)
          · exact .inr (.inr ⟨h, e⟩)
      · have hk0 : Hid (k = 0) := by show k = 0; omega
        have hneg : ¬ (0 : Int) ≤ (k : Int) - 1 := by omega
        go_wp2
        go_ret
        obtain rfl := hk0.out
        exact ⟨0, rfl, .inl ⟨by simpa using HS.out, rfl⟩, rfl⟩
end Go.Proofs.Yteepkghjphmegab
