/- rounding, as the model has it -/
import Derived.Test.YteepkghjphmegaaRo
namespace Go.Proofs.Yteepkghjphmegaa
open Go.ChangeShapes Go.WideShapes Go.ChangeAt Go.RowKit
set_option linter.unusedVariables false
set_option linter.unusedSimpArgs false

theorem top_log {N h : Int} (hN : 0 < N) (ht : topV N h) : h = (N.toNat.log2 : Int) := by
  rcases ht with ⟨e, _⟩ | ⟨h0, h1, h2⟩
  · omega
  · obtain ⟨n, rfl⟩ : ∃ n : Nat, N = (n : Int) := ⟨N.toNat, by omega⟩
    obtain ⟨k, rfl⟩ : ∃ k : Nat, h = (k : Int) := ⟨h.toNat, by omega⟩
    simp only [Int.toNat_natCast] at *
    have e1 : 2 ^ k ≤ n := by exact_mod_cast h1
    have e2 : n < 2 ^ (k + 1) := by exact_mod_cast h2
    have := (Nat.log2_eq_iff (n := n) (k := k) (by omega)).2 ⟨e1, e2⟩
    omega

def rndV (neg : Bool) (N exp : Int) (more : Bool) : Int := if N = 0 then signedV neg 0 else signedV neg (rungV N (N.toNat.log2 : Int) exp more)

set_option maxHeartbeats 400000 in
theorem refRnd_any (neg more : Bool) (v : Value) (N exp : Int) (len B : Nat) (w : World) (hl : BL w B v N len) (h1 : len ≤ 100000) (he1 : -10000 ≤ exp) (he2 : exp ≤ 10000) :
    Calls Try.prog 42 #[.bool neg, v, .int .i64 exp, .bool more] w fun e w' => e = .returned (.int .i64 (rndV neg N exp more)) ∧ w' = w := by
  by_cases hN : 0 < N
  · refine (refRounded_any neg more v N exp len B w hl h1 he1 he2 hN).mono ?_
    rintro e w' ⟨h, rfl, ht, hw⟩
    have := top_log hN ht
    subst this
    exact ⟨ret_int (by unfold rndV; rw [if_neg (by omega)]), hw⟩
  · have hlo := hl.lo
    have hz : N = 0 := by omega
    have HZ := hid_mk hz
    obtain ⟨g, cap, rfl⟩ := hl.some
    clear hz
    go_enter Try.func42, Try.ntmps42
    go_wp2_with fail
    refine (refTop_any w B _ N len (by omega) hl).mono ?_
    rintro e w' ⟨t, rfl, ht, htl, hw⟩
    obtain rfl : w = w' := hw.symm
    have htn : t < 0 := by
      rcases ht with ⟨_, h⟩ | ⟨t0, t1, t2⟩
      · omega
      · have := pow_pos' t.toNat; omega
    clear ht hw
    go_wp2_with (go_at_call 46; refine calls_same (refSigned_any _ _ _ (by omega) (by omega)) ?_)
    go_ret
    exact ⟨ret_int (by unfold rndV; rw [if_pos HZ.out]), rfl⟩

/-! the model's own rounding -/
theorem shl_pow (n k : Nat) : n <<< k = n * 2 ^ k := Nat.shiftLeft_eq n k
theorem f64_frac : FloatKind.f64.format.fractionBits = 52 := rfl

/-- half of the units that are dropped, and more -/
theorem half_facts (N : Nat) (k : Nat) : 2 ^ (k + 1) < 2 * (N % 2 ^ (k + 1)) ∨ 2 ^ (k + 1) = 2 * (N % 2 ^ (k + 1)) ∨ 2 * (N % 2 ^ (k + 1)) < 2 ^ (k + 1) := by omega
theorem mod_split (N : Int) (k : Nat) : N % 2 ^ (k + 1) = N % 2 ^ k + 2 ^ k * bit N k := mod_succ N k

theorem nearest_kept (N : Nat) (hN : 0 < N) (low : Int) (hlog : low ≤ (N.log2 : Int) + 2 ∨ (N.log2 : Int) + 2 < low) (neg : Bool) :
    ((Ieee.Toward.even.cut neg (N <<< (-low).toNat) low.toNat : Nat) : Int) = flV N low + (if upB N low false = true then 1 else 0) := by
  have hlt : N < 2 ^ (N.log2 + 1) := Nat.lt_log2_self
  unfold Ieee.Toward.cut
  dsimp only
  by_cases h0 : low ≤ 0
  · have e1 : low.toNat = 0 := by omega
    rw [e1]
    simp only [Nat.zero_min, Nat.shiftLeft_zero, Nat.div_one, Nat.mod_one]
    have hu : upB N low false = false := by
      unfold upB atV; rw [if_pos (by omega)]; rfl
    rw [hu, shl_pow]
    simp
    unfold flV
    by_cases hz : low = 0
    · subst hz; simp
    · rw [if_neg (by omega)]
  · obtain ⟨d, rfl⟩ : ∃ d : Nat, low = ((d + 1 : Nat) : Int) := ⟨low.toNat - 1, by omega⟩
    have e0 : (-((d + 1 : Nat) : Int)).toNat = 0 := by omega
    have e1 : (((d + 1 : Nat) : Int)).toNat = d + 1 := by omega
    have e2 : (((d + 1 : Nat) : Int) - 1) = (d : Int) := by omega
    rw [e0, e1, Nat.shiftLeft_zero]
    have hfl : flV N ((d + 1 : Nat) : Int) = ((N / 2 ^ (d + 1) : Nat) : Int) := by
      unfold flV; rw [if_pos (by omega), e1]; simp
    have hat : atV N (((d + 1 : Nat) : Int) - 1) = bit N d := by
      rw [e2]; unfold atV; rw [if_neg (by omega)]; simp
    have hup : upB N ((d + 1 : Nat) : Int) false = (bit N d == 1 && (restB N d || flV N ((d + 1 : Nat) : Int) % 2 == 1)) := by
      unfold upB; rw [hat, e2]; simp
    rw [hup, hfl]
    by_cases hb : d + 1 ≤ N.log2 + 2
    · rw [Nat.min_eq_left hb, Nat.one_shiftLeft]
      have hp : 0 < 2 ^ d := Nat.two_pow_pos d
      have hm := mod_succ (N : Int) d
      have hr0 : ((N % 2 ^ (d + 1) : Nat) : Int) = (N : Int) % 2 ^ (d + 1) := by simp
      have hr1 : ((N % 2 ^ d : Nat) : Int) = (N : Int) % 2 ^ d := by simp
      have hlt1 : N % 2 ^ d < 2 ^ d := Nat.mod_lt _ hp
      have hps : 2 ^ (d + 1) = 2 * 2 ^ d := by rw [Nat.pow_succ]; omega
      have hpc : ((2 ^ d : Nat) : Int) = (2 : Int) ^ d := by simp
      have hb01 := bit_01 (N : Int) d
      have hrest : restB N d = decide (N % 2 ^ d ≠ 0) := by
        unfold restB; rw [Bool.eq_iff_iff]; simp only [decide_eq_true_eq]; rw [← hr1]; omega
      rw [hrest]
      generalize hq : N / 2 ^ (d + 1) = q
      generalize hR : N % 2 ^ (d + 1) = R at *
      generalize hS : N % 2 ^ d = S at *
      rw [← hr0, ← hr1, ← hpc] at hm
      generalize 2 ^ d = p at *
      rw [hps]
      have hbc : bit (N : Int) d = 0 ∨ bit (N : Int) d = 1 := by omega
      rcases hbc with e | e
      · rw [e] at hm ⊢
        have c1 : ¬ (2 * p < 2 * R) := by omega
        have c2 : (2 * p == 2 * R) = false := by rw [beq_eq_false_iff_ne]; omega
        simp [c1, c2]
      · rw [e] at hm ⊢
        by_cases hs : S = 0
        · have c1 : ¬ (2 * p < 2 * R) := by omega
          have c2 : 2 * p = 2 * R := by omega
          simp only [c1, c2, hs, decide_false, Bool.false_or, beq_self_eq_true, Bool.true_and]
          have hq2 : (((q : Int) % 2 == 1)) = (q % 2 == 1) := by rw [Bool.eq_iff_iff]; simp; omega
          cases hqq : (q % 2 == 1) <;> simp [hqq, hq2]
        · have c1 : 2 * p < 2 * R := by omega
          simp [c1, hs]
    · have hmin : min (d + 1) (N.log2 + 2) = N.log2 + 2 := by omega
      rw [hmin, Nat.one_shiftLeft]
      have h2 : 2 ^ (N.log2 + 2) = 2 * 2 ^ (N.log2 + 1) := by rw [Nat.pow_succ]; omega
      have hNlt : N < 2 ^ (N.log2 + 2) := by omega
      rw [Nat.div_eq_of_lt hNlt, Nat.mod_eq_of_lt hNlt]
      have hz : N / 2 ^ (d + 1) = 0 := Nat.div_eq_of_lt (Nat.lt_of_lt_of_le hNlt (Nat.pow_le_pow_right (by decide) (by omega)))
      have hbz : bit N d = 0 := bit_big N d (by omega) (by
        have : N < 2 ^ d := Nat.lt_of_lt_of_le hlt (Nat.pow_le_pow_right (by decide) (by omega))
        exact_mod_cast this)
      rw [hz, hbz]
      have c1 : ¬ (2 ^ (N.log2 + 2) < 2 * N) := by omega
      have c2 : ¬ (2 ^ (N.log2 + 2) = 2 * N) := by omega
      simp [c1, c2]

theorem word_wrap (neg : Bool) (r : Nat) (h : r < 9223372036854775808) : wrap64 ((FloatKind.f64.format.word neg r : Nat) : Int) = signedV neg r := by
  unfold Ieee.Format.word signedV wrap64
  rw [f64_sign]
  cases neg
  · simp; omega
  · simp; omega
theorem rnd_nearest (neg : Bool) (N : Nat) (exp : Int) : rndV neg N exp false = wrap64 ((FloatKind.f64.format.nearest neg N exp : Nat) : Int) := by
  unfold rndV Ieee.Format.nearest
  by_cases hz : N = 0
  · subst hz
    simp only [if_true, Int.natCast_zero]
    rw [word_wrap neg 0 (by omega)]; simp
  · rw [if_neg (by omega), if_neg hz]
    dsimp only
    rw [f64_frac, f64_least, f64_bin, f64_inf]
    have hlog : (N : Int).toNat.log2 = N.log2 := by simp
    rw [hlog]
    have hl : max (exp + (N.log2 : Int) - ((52 : Nat) : Int)) (-1074) = lowV (N.log2 : Int) exp + exp := by unfold lowV; omega
    rw [hl]
    have hge : -1074 - exp ≤ lowV (N.log2 : Int) exp := by unfold lowV; omega
    have e1 : (exp - (lowV (N.log2 : Int) exp + exp)).toNat = (-(lowV (N.log2 : Int) exp)).toNat := by omega
    have e2 : (lowV (N.log2 : Int) exp + exp - exp).toNat = (lowV (N.log2 : Int) exp).toNat := by omega
    rw [e1, e2]
    have hk := nearest_kept N (by omega) (lowV (N.log2 : Int) exp) (by omega) neg
    generalize hK : Ieee.Toward.even.cut neg (N <<< (-(lowV (N.log2 : Int) exp)).toNat) (lowV (N.log2 : Int) exp).toNat = K at *
    unfold rungV
    generalize hL : lowV (N.log2 : Int) exp = low at *
    rw [Int.add_assoc ((low + exp + 1074) * 4503599627370496), ← hk]
    obtain ⟨A, hA⟩ : ∃ A : Nat, A = (low + exp - -1074).toNat := ⟨_, rfl⟩
    rw [← hA]
    have e3 : low + exp + 1074 = (A : Int) := by omega
    rw [e3]
    clear hA e3 hK hk hL hl e1 e2 hge hlog
    have hmin : ((min (A * 4503599627370496 + K) 9218868437227405312 : Nat) : Int) = min ((A : Int) * 4503599627370496 + (K : Int)) 9218868437227405312 := by
      have hX : ∀ X : Nat, ((min X 9218868437227405312 : Nat) : Int) = min (X : Int) 9218868437227405312 := by intro X; omega
      rw [hX, Int.natCast_add, Int.natCast_mul]; rfl
    have hlt : min (A * 4503599627370496 + K) 9218868437227405312 < 9223372036854775808 := Nat.lt_of_le_of_lt (Nat.min_le_right _ _) (by decide)
    rw [word_wrap neg _ hlt, hmin]
end Go.Proofs.Yteepkghjphmegaa
