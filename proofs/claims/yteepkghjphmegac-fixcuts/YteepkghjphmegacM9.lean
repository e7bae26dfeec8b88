/- the float of a whole number is the nearest one -/
import Derived.Test.YteepkghjphmegacM8
namespace Go.Proofs.Yteepkghjphmegac
open Go.ChangeShapes Go.WideShapes Go.ChangeAt Go.RowKit
set_option linter.unusedVariables false
set_option linter.unusedSimpArgs false

theorem okV_fin (a : Int) (hf : rg a < 9218868437227405312) : okV a = (decide (pExp a ≤ 7) || (decide (pExp a = 8) && pNeg a && decide (pWhole a = 4503599627370496))) := by
  have n : pNone a = false := by unfold pNone; rw [decide_eq_false_iff_not]; omega
  have i : pInf a = false := by unfold pInf; rw [decide_eq_false_iff_not]; omega
  unfold okV; rw [n, i]; simp
/-- the parts of a pattern with a full fraction -/
theorem parts_of (neg : Bool) (h : Nat) (K : Int) (hh : h ≤ 60) (hk1 : 4503599627370496 ≤ K) (hk2 : K ≤ 9007199254740992) :
    ∀ f, f = signedV neg (((h : Int) + 1022) * 4503599627370496 + K) → pNeg f = neg ∧ rg f < 9218868437227405312 ∧ (-9223372036854775808 ≤ f ∧ f ≤ 9223372036854775807) ∧
      ((K < 9007199254740992 ∧ pWhole f = K ∧ pExp f = (h : Int) - 52) ∨ (K = 9007199254740992 ∧ pWhole f = 4503599627370496 ∧ pExp f = (h : Int) - 51)) := by
  intro f hf
  obtain ⟨e1, e2⟩ := rg_signed neg (((h : Int) + 1022) * 4503599627370496 + K) (by omega) (by omega)
  rw [← hf] at e1 e2
  have hrange : -9223372036854775808 ≤ f ∧ f ≤ 9223372036854775807 := by rw [hf]; unfold signedV; cases neg <;> simp <;> omega
  refine ⟨e2, by omega, hrange, ?_⟩
  unfold pWhole pExp
  rw [if_neg (by omega), if_pos (by omega), if_neg (by omega), if_pos (by omega), e1]
  by_cases hK : K < 9007199254740992
  · exact .inl ⟨hK, by omega, by omega⟩
  · exact .inr ⟨by omega, by omega, by omega⟩
theorem flV_up (W e : Int) (d : Nat) (h : e = (d : Int)) : flV W (-e) = W * 2 ^ d := by
  subst h
  unfold flV
  by_cases hz : d = 0
  · subst hz; simp
  · rw [if_neg (by omega), show (-(-(d : Int))).toNat = d by omega]
theorem near_core (neg : Bool) (M : Int) (h0 : 0 < M) (h1 : M ≤ 1152921504606846976) (hn : neg = false → M < 1152921504606846976) :
    ∀ f, f = rndV neg M 0 false → (M ≤ 9007199254740992 → okV f = true ∧ nV f = sg neg M) ∧ (okV f = false → neg = false ∧ 1152921504606846911 < M) ∧
      (okV f = true → ∃ X, nV f = sg neg X ∧ 0 < X ∧ X ≤ 1152921504606846976 ∧ (neg = false → X < 1152921504606846976) ∧ -64 ≤ X - M ∧ X - M ≤ 64 ∧ rndV neg X 0 false = f) := by
  intro f hf
  obtain ⟨h, hh, b1, b2, hv, k1, k2⟩ := toFlo_parts neg M h0 h1
  obtain ⟨p1, p2, p3, p4⟩ := parts_of neg h _ hh k1 k2 f (hf.trans hv)
  have hok := okV_fin f p2
  have hnv : okV f = true → nV f = sg neg (flV (pWhole f) (-(pExp f))) := fun k => by unfold nV; rw [if_pos k, p1]
  by_cases hs : h ≤ 52
  · have hb : M < 9007199254740992 := by
      have : (2 : Int) ^ (h + 1) ≤ 2 ^ 53 := pow_le_pow (by omega)
      rw [pow53] at this; omega
    have hk : okV f = true := by rw [hok]; simp; left; omega
    have hkept : keptV M ((h : Int) - 52) false = M * 2 ^ (52 - h) := by
      have hu : upB M ((h : Int) - 52) false = false := by unfold upB atV; rw [if_pos (by omega)]; rfl
      unfold keptV
      rw [hu, show (h : Int) - 52 = -((52 - h : Nat) : Int) by omega, flV_up _ _ (52 - h) rfl]; simp
    have hlt : keptV M ((h : Int) - 52) false < 9007199254740992 := by
      rw [hkept]
      have m2 := Int.mul_lt_mul_of_pos_right b2 (pow_pos' (52 - h))
      rw [← Int.pow_add, show h + 1 + (52 - h) = 53 by omega, pow53] at m2
      exact m2
    have hW : pWhole f = M * 2 ^ (52 - h) := by rcases p4 with ⟨_, q, _⟩ | ⟨q, _⟩ <;> omega
    have hE : pExp f = (h : Int) - 52 := by rcases p4 with ⟨_, _, q⟩ | ⟨q, _⟩ <;> omega
    have hn2 : nV f = sg neg M := by
      rw [hnv hk, hW, hE]
      have hs := flV_scale M 0 (52 - h)
      rw [show (0 : Int) + ((52 - h : Nat) : Int) = -((h : Int) - 52) by omega] at hs
      rw [hs]; unfold flV; simp
    refine ⟨fun _ => ⟨hk, hn2⟩, (fun q => by rw [hk] at q; cases q), fun _ => ⟨M, hn2, h0, h1, hn, by omega, by omega, hf.symm⟩⟩
  · obtain ⟨k, hkk⟩ : ∃ k : Nat, h = k + 53 := ⟨h - 53, by omega⟩
    subst hkk
    have herr := kept_err M k (by omega)
    rw [show ((k + 53 : Nat) : Int) - 52 = ((k + 1 : Nat) : Int) by omega] at *
    generalize keptV M ((k + 1 : Nat) : Int) false = K at *
    have hX : pWhole f * 2 ^ (pExp f).toNat = K * 2 ^ (k + 1) ∧ 0 ≤ pExp f := by
      rcases p4 with ⟨_, q1, q2⟩ | ⟨q0, q1, q2⟩
      · rw [q1, q2]; exact ⟨by congr 2, by omega⟩
      · rw [q0, q1, q2, show (((k + 53 : Nat) : Int) - 51).toNat = k + 1 + 1 by omega, pow_succ' (k + 1)]
        refine ⟨?_, by omega⟩
        rw [← Int.mul_assoc]; rfl
    have hfl : flV (pWhole f) (-(pExp f)) = K * 2 ^ (k + 1) := by
      rw [flV_up _ _ (pExp f).toNat (by omega)]; exact hX.1
    have hback : rndV neg (K * 2 ^ (k + 1)) 0 false = f := by
      rw [← hX.1]
      have hs := rnd_scale neg (pWhole f) (pExp f) (pExp f).toNat (pWhole_bounds f).1
      rw [show pExp f - ((pExp f).toNat : Int) = 0 by omega] at hs
      rw [hs, ← p1]; exact rnd_exact f p3.1 p3.2 p2
    have hXp : 0 < K * 2 ^ (k + 1) := Int.mul_pos (by omega) (pow_pos' _)
    rw [hfl] at hnv
    clear hX hfl
    generalize hXX : K * 2 ^ (k + 1) = X at *
    have hk7 : k ≤ 7 := by omega
    have cases8 : k = 0 ∨ k = 1 ∨ k = 2 ∨ k = 3 ∨ k = 4 ∨ k = 5 ∨ k = 6 ∨ k = 7 := by omega
    have hp2 : (2 : Int) ^ (k + 1) = 2 * 2 ^ k := pow_succ' k
    have b1' : 9007199254740992 * (2 : Int) ^ k ≤ M := by
      rw [← pow53, ← Int.pow_add, Nat.add_comm 53 k]; exact b1
    have hkp : (2 : Int) ^ k ≤ 64 ∨ k = 7 := by
      by_cases h7 : k = 7
      · exact .inr h7
      · have : (2 : Int) ^ k ≤ 2 ^ 6 := pow_le_pow (by omega)
        exact .inl (by simpa using this)
    have h7 : k = 7 → X = 1152921504606846976 ∧ M = 1152921504606846976 ∧ K = 4503599627370496 ∧ neg = true := by
      intro q; subst q
      have e7 : (2 : Int) ^ 7 = 128 := by decide
      have e8 : (2 : Int) ^ (7 + 1) = 256 := by decide
      rw [e7] at b1' herr
      rw [e8] at hXX
      refine ⟨by omega, by omega, by omega, ?_⟩
      cases neg
      · have := hn rfl; omega
      · rfl
    have hokk : okV f = true ↔ ¬ (neg = false ∧ k = 6 ∧ K = 9007199254740992) := by
      rw [hok]
      simp only [Bool.or_eq_true, Bool.and_eq_true, decide_eq_true_eq]
      rw [p1]
      constructor
      · rintro q ⟨r1, r2, r3⟩
        rw [r1] at q
        rcases p4 with ⟨_, q1, q2⟩ | ⟨q0, q1, q2⟩
        · omega
        · rcases q with q | ⟨⟨_, q⟩, _⟩
          · omega
          · cases q
      · intro q
        by_cases r : k = 7
        · obtain ⟨_, _, r2, r3⟩ := h7 r
          right
          rcases p4 with ⟨_, q1, q2⟩ | ⟨q0, q1, q2⟩
          · exact ⟨⟨by omega, r3⟩, by omega⟩
          · omega
        · rcases p4 with ⟨_, q1, q2⟩ | ⟨q0, q1, q2⟩
          · left; omega
          · by_cases r6 : k = 6
            · right
              cases hng : neg
              · exact absurd ⟨hng, r6, q0⟩ q
              · exact ⟨⟨by omega, rfl⟩, by omega⟩
            · left; omega
    refine ⟨fun hM => ?_, fun q => ?_, fun q => ?_⟩
    · have hk0 : k = 0 := by
        by_cases r : k = 0
        · exact r
        · have : (2 : Int) ^ 1 ≤ 2 ^ k := pow_le_pow (by omega)
          simp at this; omega
      subst hk0
      simp at b1' herr hXX hp2
      have : okV f = true := hokk.2 (by omega)
      refine ⟨this, ?_⟩
      rw [hnv this]
      rw [show X = M by omega]
    · have hx : neg = false ∧ k = 6 ∧ K = 9007199254740992 := by
        by_cases r : neg = false ∧ k = 6 ∧ K = 9007199254740992
        · exact r
        · rw [hokk.2 r] at q; cases q
      refine ⟨hx.1, ?_⟩
      rw [hx.2.1] at herr hXX
      rw [hx.2.2] at hXX
      have e6 : (2 : Int) ^ 6 = 64 := by decide
      have e7 : (2 : Int) ^ (6 + 1) = 128 := by decide
      rw [e6] at herr
      rw [e7] at hXX
      omega
    · have q' := hokk.1 q
      refine ⟨X, hnv q, hXp, ?_, ?_, ?_, ?_, hback⟩
      · rcases hkp with r | r
        · have hm := Int.mul_le_mul k2 (show (2 : Int) ^ (k + 1) ≤ 128 by omega) (Int.le_of_lt (pow_pos' _)) (by decide)
          rw [hXX] at hm; omega
        · have := h7 r; omega
      · intro hng
        rcases hkp with r | r
        · by_cases hKK : K = 9007199254740992
          · have hk5 : k ≤ 5 := by
              by_cases r5 : k ≤ 5
              · exact r5
              · exfalso
                by_cases r6 : k = 6
                · exact q' ⟨hng, r6, hKK⟩
                · have := (h7 (by omega)).2.2.2; rw [hng] at this; cases this
            have : (2 : Int) ^ k ≤ 2 ^ 5 := pow_le_pow hk5
            have e5 : (2 : Int) ^ 5 = 32 := by decide
            have hm := Int.mul_le_mul k2 (show (2 : Int) ^ (k + 1) ≤ 64 by omega) (Int.le_of_lt (pow_pos' _)) (by decide)
            rw [hXX] at hm; omega
          · have hm := Int.mul_le_mul (show K ≤ 9007199254740991 by omega) (show (2 : Int) ^ (k + 1) ≤ 128 by omega) (Int.le_of_lt (pow_pos' _)) (by decide)
            rw [hXX] at hm; omega
        · have := (h7 r).2.2.2; rw [hng] at this; cases this
      · rcases hkp with r | r
        · omega
        · have := h7 r; omega
      · rcases hkp with r | r
        · omega
        · have := h7 r; omega
theorem toFlo_zero : toFloV 0 = 0 := by decide
theorem near_facts (c : Int) (h1 : -1152921504606846976 ≤ c) (h2 : c ≤ 1152921504606846975) :
    (-9007199254740992 ≤ c → c ≤ 9007199254740992 → okV (toFloV c) = true ∧ nV (toFloV c) = c) ∧ (okV (toFloV c) = false → 1152921504606846911 < c) ∧
      (okV (toFloV c) = true → -64 ≤ nV (toFloV c) - c ∧ nV (toFloV c) - c ≤ 64 ∧ toFloV (nV (toFloV c)) = toFloV c ∧ -1152921504606846976 ≤ nV (toFloV c) ∧ nV (toFloV c) ≤ 1152921504606846975) := by
  by_cases hz : c = 0
  · subst hz
    rw [toFlo_zero]
    have k : okV 0 = true := by decide
    have n : nV 0 = 0 := by
      unfold nV; rw [if_pos k]
      have : pWhole 0 = 0 := by decide
      rw [this]
      have : flV 0 (-(pExp 0)) = 0 := by unfold flV; split <;> simp
      rw [this]; unfold sg; split <;> rfl
    rw [k, n]
    exact ⟨fun _ _ => ⟨rfl, rfl⟩, (fun q => by cases q), fun _ => ⟨by omega, by omega, toFlo_zero, by omega, by omega⟩⟩
  · obtain ⟨F1, F2, F3⟩ := near_core (decide (c < 0)) (c.natAbs : Int) (by omega) (by omega) (fun q => by have := of_decide_eq_false q; omega) (toFloV c) rfl
    have hsg : sg (decide (c < 0)) (c.natAbs : Int) = c := by
      unfold sg
      by_cases q : c < 0
      · rw [decide_eq_true q]; simp; omega
      · rw [decide_eq_false q]; simp; omega
    refine ⟨fun g1 g2 => ?_, fun q => ?_, fun q => ?_⟩
    · obtain ⟨r1, r2⟩ := F1 (by omega)
      exact ⟨r1, r2.trans hsg⟩
    · obtain ⟨r1, r2⟩ := F2 q
      have := of_decide_eq_false r1
      omega
    · obtain ⟨X, x1, x2, x3, x4, x5, x6, x7⟩ := F3 q
      have hback : toFloV (nV (toFloV c)) = toFloV c := by
        rw [x1, ← x7]
        unfold toFloV
        by_cases q : c < 0
        · rw [decide_eq_true q]; unfold sg; simp only [if_true]
          rw [decide_eq_true (by omega)]
          rw [show ((-X).natAbs : Int) = X by omega]
        · rw [decide_eq_false q]; unfold sg; simp only [Bool.false_eq_true, if_false]
          rw [decide_eq_false (by omega)]
          rw [show (X.natAbs : Int) = X by omega]
      rw [hback, x1]
      by_cases q : c < 0
      · rw [decide_eq_true q] at *; unfold sg; simp only [if_true]
        exact ⟨by omega, by omega, trivial, by omega, by omega⟩
      · rw [decide_eq_false q] at *; unfold sg; simp only [Bool.false_eq_true, if_false]
        have := x4 rfl
        exact ⟨by omega, by omega, trivial, by omega, by omega⟩
end Go.Proofs.Yteepkghjphmegac
