/- Gap -/
import Derived.Test.YtnkobcldagajeabDoorBd
namespace Go.Proofs.YtnkobcldagajeabDoor
open Go.RowKit
set_option linter.unusedVariables false
set_option linter.unusedSimpArgs false

/-- k numbers from i on are out, within the length -/
def runB (S : Nat → Bool) (n k i : Nat) : Bool := decide (i + k ≤ n) && decide (cntR S i (i + k) = 0)
def gapV (S : Nat → Bool) (n : Nat) (a k : Int) : Int := if k < 1 then -1 else nxr (runB S n k.toNat) n a.toNat
theorem runB_of {S : Nat → Bool} {n k i : Nat} (h1 : i + k ≤ n) (h2 : ∀ j, i ≤ j → j < i + k → S j = false) : runB S n k i = true := by
  have : cntR S i (i + k) = 0 := cnt_zero fun j hj => by
    by_cases h : i ≤ j
    · rw [h2 j h hj]; simp
    · simp [h]
  simp [runB, h1, this]
theorem runB_not {S : Nat → Bool} {n k i j : Nat} (h1 : i ≤ j) (h2 : j < i + k) (h3 : S j = true) : runB S n k i = false := by
  by_cases h : cntR S i (i + k) = 0
  · have := cnt_none h j h2
    simp [h1, h3] at this
  · simp [runB, h]
theorem runB_long {S : Nat → Bool} {n k i : Nat} (h1 : n < i + k) : runB S n k i = false := by
  have : ¬ i + k ≤ n := by omega
  simp [runB, this]
theorem gap_found {S : Nat → Bool} {n k a st : Nat} (hk : 1 ≤ k) (ha : a ≤ st) (hz : ∀ i, a ≤ i → i < st → runB S n k i = false) (he : k ≤ nx S n st - st) (hs : st ≤ n) : nxr (runB S n k) n a = st := by
  have h1 := nx_le S n st
  have h2 := nx_out S n st
  have h3 : runB S n k st = true := runB_of (by omega) fun j a b => h2 j a (by omega)
  have e := nx_eq (runB S n k) n a st ha hs hz fun _ => h3
  unfold nxr
  rw [e, if_pos (by omega)]
theorem gap_none {S : Nat → Bool} {n k a st : Nat} (hk : 1 ≤ k) (hz : ∀ i, a ≤ i → i < st → runB S n k i = false) (he : n < k + st) : nxr (runB S n k) n a = -1 := by
  have hz' : ∀ i, a ≤ i → i < n → runB S n k i = false := fun i h1 h2 => by
    by_cases h : i < st
    · exact hz i h1 h
    · exact runB_long (by omega)
  have e : nx (runB S n k) n a = n := by
    by_cases ha : a ≤ n
    · exact nx_eq _ n a n ha (Nat.le_refl _) hz' fun h => by omega
    · exact nx_end _ _ _ (by omega)
  unfold nxr
  rw [e, if_neg (by omega)]
theorem gap_step {S : Nat → Bool} {n k a st : Nat} (hk : 1 ≤ k) (hz : ∀ i, a ≤ i → i < st → runB S n k i = false) (hs : st ≤ n) (he : nx S n st - st < k) :
    ∀ i, a ≤ i → i < nx (flp S true) n (nx S n st) → runB S n k i = false := by
  intro i h1 h2
  have g1 := nx_le S n st
  have g2 := nx_ge S n st hs
  have g3 := nx_le (flp S true) n (nx S n st)
  by_cases hi : i < st
  · exact hz i h1 hi
  · by_cases hi2 : i < nx S n st
    · by_cases hn : nx S n st < n
      · exact runB_not (j := nx S n st) (by omega) (by omega) (nx_in S n st hn)
      · exact runB_long (by omega)
    · have := nx_out (flp S true) n (nx S n st) i (by omega) h2
      simp [flp] at this
      exact runB_not (j := i) (by omega) (by omega) this
theorem gap_first {S : Nat → Bool} {n k a : Nat} (hk : 1 ≤ k) : ∀ i, a ≤ i → i < nx (flp S true) n a → runB S n k i = false := by
  intro i h1 h2
  have := nx_out (flp S true) n a i h1 h2
  simp [flp] at this
  exact runB_not (j := i) (by omega) (by omega) this
theorem gap_no {w : World} (b : Nat) (a k : Int) (hk : k < 1) :
    Calls Tryd.prog 18 #[.pointer (some ⟨b, 0, none⟩), .int .i64 a, .int .i64 k] w fun e w' => e = .returned (.int .i64 (-1)) ∧ w' = w := by
  go_enter Tryd.func18, Tryd.ntmps18
  go_wp2
  go_ret
  exact ⟨rfl, rfl⟩
theorem seekOut {w : World} {lo hi b n : Nat} {S : Nat → Bool} (h : MapAt w lo hi b n S) (a : Int) (ha : 0 ≤ a) :
    Calls Tryd.prog 30 #[.pointer (some ⟨b, 0, none⟩), .int .i64 a, .int .u64 18446744073709551615] w fun e w' => e = .returned (.int .i64 (nx (flp S true) n a.toNat)) ∧ Out 0 0 w w' := seek_any h a 18446744073709551615 true rfl ha
theorem seekIn {w : World} {lo hi b n : Nat} {S : Nat → Bool} (h : MapAt w lo hi b n S) (a : Nat) :
    Calls Tryd.prog 30 #[.pointer (some ⟨b, 0, none⟩), .int .i64 a, .int .u64 0] w fun e w' => e = .returned (.int .i64 (nx S n a)) ∧ Out 0 0 w w' := by
  have := seek_any h a 0 false rfl (by omega)
  rw [flp_in, Int.toNat_natCast] at this
  exact this
set_option maxRecDepth 100000 in
set_option maxHeartbeats 2000000 in
theorem gap_yes {w : World} {lo hi b n : Nat} {S : Nat → Bool} (h : MapAt w lo hi b n S) (a k : Int) (hk : 1 ≤ k) :
    Calls Tryd.prog 18 #[.pointer (some ⟨b, 0, none⟩), .int .i64 a, .int .i64 k] w fun e w' => e = .returned (.int .i64 (nxr (runB S n k.toNat) n a.toNat)) ∧ Out 0 0 w w' := by
  have HM := hid_mk h
  have HL := hid_mk (fun w (h : MapAt w lo hi b n S) => len_any h)
  have HS1 := hid_mk (fun w (h : MapAt w lo hi b n S) (a : Int) (ha : 0 ≤ a) => seekOut h a ha)
  have HS0 := hid_mk (fun w (h : MapAt w lo hi b n S) (a : Nat) => seekIn h a)
  have HN := hid_mk h.bounds.2.2.2.2.1
  have hn : (n : Int) ≤ 1000000 := by have := h.bounds.2.2.2.2.1; omega
  clear h
  by_cases h0 : 0 ≤ a
  · go_enter Tryd.func18, Tryd.ntmps18
    go_wp2_with fail
    refine (HS1.out _ HM.out a h0).mono ?_
    rintro e w1 ⟨rfl, hg⟩
    have H0 := hid_mk (gap_first (S := S) (n := n) (a := a.toNat) (show 1 ≤ k.toNat by omega))
    have H1 := hid_mk (nx_le (flp S true) n a.toNat)
    have H2 : Hid (nx (flp S true) n a.toNat < n → a.toNat ≤ nx (flp S true) n a.toNat) := fun hl => by
      by_cases hx : a.toNat ≤ n
      · exact nx_ge _ _ _ hx
      · rw [nx_end _ _ _ (by omega)] at hl; omega
    have H3 : Hid (nx (flp S true) n a.toNat < n → S (nx (flp S true) n a.toNat) = false) := fun hl => by
      have := nx_in (flp S true) n a.toNat hl
      simpa [flp] using this
    generalize nx (flp S true) n a.toNat = st at *
    have HG := hid_mk hg
    clear hg
    go_wp2_with fail
    go_loopw [7] (fun x wr => ∃ st : Nat, st ≤ n ∧ x = .int .i64 st ∧ (st < n → a.toNat ≤ st) ∧ (st < n → S st = false) ∧ (∀ i, a.toNat ≤ i → i < st → runB S n k.toNat i = false) ∧ Out 0 0 w wr) (fun x _ => n - (intOf x).toNat)
    case atStart => exact ⟨st, H1.out, rfl, H2.out, H3.out, H0.out, HG.out⟩
    case round =>
      clear H0 H1 H2 H3 HG
      obtain ⟨st, g1, rfl, g2, g3, g4, g5⟩ := hrel
      have G1 := hid_mk g1
      have G2 := hid_mk g2
      have G3 := hid_mk g3
      have G4 := hid_mk g4
      have G5 := hid_mk g5
      have st1 : (st : Int) ≤ (n : Int) := by omega
      clear g1 g2 g3 g4 g5
      by_cases hc : k ≤ (n : Int) - (st : Int)
      · have st2 : st < n := by omega
        obtain ⟨en, hen⟩ : ∃ en, nx S n st = en := ⟨_, rfl⟩
        have e1 : (st : Int) < (en : Int) := by
          have q1 := nx_ge S n st (by omega)
          have q2 : nx S n st ≠ st := fun e => by
            have q3 := nx_in S n st (by omega)
            rw [e, G3.out st2] at q3; cases q3
          omega
        have e2 : (en : Int) ≤ (n : Int) := by have := nx_le S n st; omega
        have HEN := hid_mk hen
        have HST := hid_mk st2
        clear hen st2
        by_cases hd : k ≤ (en : Int) - (st : Int)
        · go_wp2_with (first
            | (go_at_call 23; refine calls_same (HL.out _ (HM.out.quiet G5.out)) ?_)
            | (go_at_call 30; refine (HS0.out _ (HM.out.quiet G5.out) st).mono ?_; rintro e w2 ⟨rfl, hg2⟩; rw [HEN.out]; have HG2 := hid_mk hg2; clear hg2))
          go_ret
          refine ⟨ret_int ?_, G5.out.trans HG2.out⟩
          rw [gap_found (by omega) (G2.out HST.out) G4.out (by rw [HEN.out]; omega) (by omega)]
        · obtain ⟨s2, hs2⟩ : ∃ s2, nx (flp S true) n en = s2 := ⟨_, rfl⟩
          have f1 : (en : Int) ≤ (s2 : Int) := by have := nx_ge (flp S true) n en (by omega); omega
          have f2 : (s2 : Int) ≤ (n : Int) := by have := nx_le (flp S true) n en; omega
          have HS2 := hid_mk hs2
          clear hs2
          go_wp2_with (first
            | (go_at_call 23; refine calls_same (HL.out _ (HM.out.quiet G5.out)) ?_)
            | (go_at_call_of 30 (Value.int IntKind.u64 0); refine (HS0.out _ (HM.out.quiet G5.out) st).mono ?_; rintro e w2 ⟨rfl, hg2⟩; rw [HEN.out]; have HG2 := hid_mk hg2; clear hg2)
            | (go_at_call_of 30 (Value.int IntKind.u64 18446744073709551615); refine (HS1.out _ (HM.out.quiet (G5.out.trans HG2.out)) en (by omega)).mono ?_; rintro e w3 ⟨rfl, hg3⟩; rw [Int.toNat_natCast, HS2.out]; have HG3 := hid_mk hg3; clear hg3))
          go_roundw
          case rel =>
            refine ⟨s2, by omega, rfl, fun hl => ?_, fun hl => ?_, fun i i1 i2 => ?_, (G5.out.trans HG2.out).trans HG3.out⟩
            · have := G2.out HST.out; omega
            · have := nx_in (flp S true) n en (by rw [HS2.out]; exact hl)
              rw [HS2.out] at this
              simpa [flp] using this
            · exact gap_step (by omega) G4.out (by omega) (by rw [HEN.out]; omega) i i1 (by rw [HEN.out, HS2.out]; exact i2)
          case measure => simp [intOf]; omega
      · go_wp2_with (go_at_call 23; refine calls_same (HL.out _ (HM.out.quiet G5.out)) ?_)
        go_ret
        refine ⟨ret_int ?_, G5.out⟩
        rw [gap_none (by omega) G4.out (by omega)]
  · have h1 : a < 0 := by omega
    clear h0
    go_enter Tryd.func18, Tryd.ntmps18
    go_wp2_with fail
    refine (HS1.out _ HM.out 0 (by omega)).mono ?_
    rintro e w1 ⟨rfl, hg⟩
    rw [show (0 : Int).toNat = a.toNat from by omega]
    have H0 := hid_mk (gap_first (S := S) (n := n) (a := a.toNat) (show 1 ≤ k.toNat by omega))
    have H1 := hid_mk (nx_le (flp S true) n a.toNat)
    have H2 : Hid (nx (flp S true) n a.toNat < n → a.toNat ≤ nx (flp S true) n a.toNat) := fun hl => by
      by_cases hx : a.toNat ≤ n
      · exact nx_ge _ _ _ hx
      · rw [nx_end _ _ _ (by omega)] at hl; omega
    have H3 : Hid (nx (flp S true) n a.toNat < n → S (nx (flp S true) n a.toNat) = false) := fun hl => by
      have := nx_in (flp S true) n a.toNat hl
      simpa [flp] using this
    generalize nx (flp S true) n a.toNat = st at *
    have HG := hid_mk hg
    clear hg
    go_wp2_with fail
    go_loopw [7] (fun x wr => ∃ st : Nat, st ≤ n ∧ x = .int .i64 st ∧ (st < n → a.toNat ≤ st) ∧ (st < n → S st = false) ∧ (∀ i, a.toNat ≤ i → i < st → runB S n k.toNat i = false) ∧ Out 0 0 w wr) (fun x _ => n - (intOf x).toNat)
    case atStart => exact ⟨st, H1.out, rfl, H2.out, H3.out, H0.out, HG.out⟩
    case round =>
      clear H0 H1 H2 H3 HG
      obtain ⟨st, g1, rfl, g2, g3, g4, g5⟩ := hrel
      have G1 := hid_mk g1
      have G2 := hid_mk g2
      have G3 := hid_mk g3
      have G4 := hid_mk g4
      have G5 := hid_mk g5
      have st1 : (st : Int) ≤ (n : Int) := by omega
      clear g1 g2 g3 g4 g5
      by_cases hc : k ≤ (n : Int) - (st : Int)
      · have st2 : st < n := by omega
        obtain ⟨en, hen⟩ : ∃ en, nx S n st = en := ⟨_, rfl⟩
        have e1 : (st : Int) < (en : Int) := by
          have q1 := nx_ge S n st (by omega)
          have q2 : nx S n st ≠ st := fun e => by
            have q3 := nx_in S n st (by omega)
            rw [e, G3.out st2] at q3; cases q3
          omega
        have e2 : (en : Int) ≤ (n : Int) := by have := nx_le S n st; omega
        have HEN := hid_mk hen
        have HST := hid_mk st2
        clear hen st2
        by_cases hd : k ≤ (en : Int) - (st : Int)
        · go_wp2_with (first
            | (go_at_call 23; refine calls_same (HL.out _ (HM.out.quiet G5.out)) ?_)
            | (go_at_call 30; refine (HS0.out _ (HM.out.quiet G5.out) st).mono ?_; rintro e w2 ⟨rfl, hg2⟩; rw [HEN.out]; have HG2 := hid_mk hg2; clear hg2))
          go_ret
          refine ⟨ret_int ?_, G5.out.trans HG2.out⟩
          rw [gap_found (by omega) (G2.out HST.out) G4.out (by rw [HEN.out]; omega) (by omega)]
        · obtain ⟨s2, hs2⟩ : ∃ s2, nx (flp S true) n en = s2 := ⟨_, rfl⟩
          have f1 : (en : Int) ≤ (s2 : Int) := by have := nx_ge (flp S true) n en (by omega); omega
          have f2 : (s2 : Int) ≤ (n : Int) := by have := nx_le (flp S true) n en; omega
          have HS2 := hid_mk hs2
          clear hs2
          go_wp2_with (first
            | (go_at_call 23; refine calls_same (HL.out _ (HM.out.quiet G5.out)) ?_)
            | (go_at_call_of 30 (Value.int IntKind.u64 0); refine (HS0.out _ (HM.out.quiet G5.out) st).mono ?_; rintro e w2 ⟨rfl, hg2⟩; rw [HEN.out]; have HG2 := hid_mk hg2; clear hg2)
            | (go_at_call_of 30 (Value.int IntKind.u64 18446744073709551615); refine (HS1.out _ (HM.out.quiet (G5.out.trans HG2.out)) en (by omega)).mono ?_; rintro e w3 ⟨rfl, hg3⟩; rw [Int.toNat_natCast, HS2.out]; have HG3 := hid_mk hg3; clear hg3))
          go_roundw
          case rel =>
            refine ⟨s2, by omega, rfl, fun hl => ?_, fun hl => ?_, fun i i1 i2 => ?_, (G5.out.trans HG2.out).trans HG3.out⟩
            · have := G2.out HST.out; omega
            · have := nx_in (flp S true) n en (by rw [HS2.out]; exact hl)
              rw [HS2.out] at this
              simpa [flp] using this
            · exact gap_step (by omega) G4.out (by omega) (by rw [HEN.out]; omega) i i1 (by rw [HEN.out, HS2.out]; exact i2)
          case measure => simp [intOf]; omega
      · go_wp2_with (go_at_call 23; refine calls_same (HL.out _ (HM.out.quiet G5.out)) ?_)
        go_ret
        refine ⟨ret_int ?_, G5.out⟩
        rw [gap_none (by omega) G4.out (by omega)]
theorem gap_any {w : World} {lo hi b n : Nat} {S : Nat → Bool} (h : MapAt w lo hi b n S) (a k : Int) :
    Calls Tryd.prog 18 #[.pointer (some ⟨b, 0, none⟩), .int .i64 a, .int .i64 k] w fun e w' => e = .returned (.int .i64 (gapV S n a k)) ∧ Out 0 0 w w' := by
  unfold gapV
  by_cases hk : k < 1
  · rw [if_pos hk]
    exact (gap_no b a k hk).mono fun e w' ⟨h1, h2⟩ => ⟨h1, by rw [h2]; exact Out.refl _ _ _⟩
  · rw [if_neg hk]
    exact gap_yes h a k (by omega)
end Go.Proofs.YtnkobcldagajeabDoor
