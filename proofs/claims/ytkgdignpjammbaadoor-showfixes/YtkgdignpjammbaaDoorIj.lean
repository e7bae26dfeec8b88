/- ShowFixes -/
import Derived.Test.YtkgdignpjammbaaDoorIh
import Derived.Test.YtkgdignpjammbaaDoorIi
namespace Go.Proofs.YtkgdignpjammbaaDoor
open Go.RowKit
set_option linter.unusedVariables false
set_option linter.unusedSimpArgs false

set_option maxHeartbeats 2000000 in
theorem fixes_out {W : World} {n : Int} (ht : Tp W) (h : validB_v 1 n = false) (hn : 1152921504606846975 < n ∨ n < -1152921504606846976) :
    Calls Tryd.prog 3 #[.int .i64 n] W fun e w' => e = .returned (.bool true) ∧ Out 0 0 W w' := by
  have HA := hid_mk (alive_any ht)
  have HG := hid_mk (fun W1 => graph_bad (W := W1) h)
  clear ht
  rcases hn with hn | hn
  all_goals
    go_enter Tryd.func3, Tryd.ntmps3
    go_wp2_with (first
      | (go_at_call 7; refine HA.out.mono ?_; rintro e w1 ⟨rfl, o1⟩)
      | (go_at_call 9; refine (fix_any _ _).mono ?_; rintro e w2 ⟨rfl, o2⟩)
      | (go_at_call 8; refine (HG.out _).mono ?_; rintro e w3 ⟨rfl, o3⟩; have fN := Bl.new w3 #[.int .i64 33, .int .i64 0] 25; have y0 := fN.cell (i := 0) rfl; have y1 := fN.cell (i := 1) rfl)
      | (go_at_call 10; refine calls_same (num_any _ _) ?_))
    go_ret
    exact ⟨rfl, ((o1.trans o2).trans o3).alloc _⟩
theorem fx_next {u N j t d : Nat} {x : Int} (hu : u ≤ 1152921504606846976) (hj1 : 1 ≤ j) (hjN : j ≤ N) (hN : N ≤ 20) (hst : (10 : Int) * (t : Int) + (d : Int) = (topV u (j - 1 + 1) : Int)) (hd : d < 10) (hx : x = 48 + (d : Int)) :
    (∃ j1 : Nat, 1 ≤ j1 ∧ j1 ≤ N + 1 ∧ Value.int .i64 (wrap64 ((j : Int) + 1)) = .int .i64 (j1 : Int) ∧ Value.int .i64 (wrap64 (wrap64 (10 * (t : Int)) + (x - 48))) = .int .i64 (topV u (j1 - 1) : Int)) ∧ N + 1 - (Lib.intOf (.int .i64 (wrap64 ((j : Int) + 1)))).toNat < N + 1 - (Lib.intOf (Value.int .i64 (j : Int))).toNat := by
  have hl := top_le u (j - 1 + 1)
  have w1 : wrap64 ((j : Int) + 1) = ((j + 1 : Nat) : Int) := by unfold wrap64; push_cast; omega
  have w2 : wrap64 (wrap64 (10 * (t : Int)) + (x - 48)) = (topV u (j + 1 - 1) : Int) := by
    have e : j + 1 - 1 = j - 1 + 1 := by omega
    rw [e, ← hst, hx]
    have h1 : wrap64 (10 * (t : Int)) = 10 * (t : Int) := by unfold wrap64; omega
    rw [h1]; unfold wrap64; omega
  refine ⟨⟨j + 1, by omega, by omega, by rw [w1], by rw [w2]⟩, ?_⟩
  rw [w1]
  simp [Lib.intOf]
  omega
theorem fx_byte {s : ByteArray} {N u j i : Nat} (hC : ∀ t, t < N → ∀ hb : t + i < s.size, (s[t + i]'hb).toNat = 48 + digV u t) (hz : s.size = N + i) (h1 : i ≤ j) (hj : j < s.size) :
    ((s[j]'hj).toNat : Int) = 48 + (digV u (j - i) : Int) ∧ ¬ ((s[j]'hj).toNat : Int) < 48 ∧ ¬ (57 : Int) < ((s[j]'hj).toNat : Int) ∧ (j : Int) < (s.size : Int) ∧ j - i < N := by
  have hcj := hC (j - i) (by omega) (by omega)
  have : (s[j - i + i]'(by omega)) = s[j]'hj := by congr 1; omega
  rw [this] at hcj
  have := dig_lt u (j - i)
  omega
theorem fx_end {s : ByteArray} {N u j : Nat} {n : Int} (hU : u = n.natAbs ∧ n = -(u : Int) ∧ N = Lib.nDigits u) (h1 : 1 ≤ u) (hn : -1152921504606846976 ≤ n) (h0 : n < 0) (hz : s.size = N + 1) (hj2 : j ≤ N + 1) (hj : ¬ j < s.size) :
    topV u (j - 1) = u ∧ ¬ (j : Int) < (s.size : Int) ∧ ¬ (u : Int) = n ∧ wrap64 (-n) = (u : Int) := by
  obtain ⟨a, b, c⟩ := hU
  have ej : j - 1 = N := by omega
  refine ⟨by rw [ej, c, top_all], by omega, by omega, ?_⟩
  unfold wrap64; omega
theorem fx_neg {u : Nat} {n : Int} (h : n = -(u : Int)) : (u : Int) = -n := by omega
theorem top_int (u t : Nat) (h : t < Lib.nDigits u) : (10 : Int) * (topV u t : Int) + (digV u t : Int) = (topV u (t + 1) : Int) := by
  rw [top_succ u t h]; push_cast; rfl
set_option maxHeartbeats 4000000 in
theorem fixes_neg {W : World} {n : Int} (ht : Tp W) (hn : -1152921504606846976 ≤ n) (h0 : n < 0) :
    Calls Tryd.prog 3 #[.int .i64 n] W fun e w' => e = .returned (.bool true) ∧ Out 0 0 W w' := by
  obtain ⟨s, hs⟩ : ∃ s : ByteArray, s = ⟨(Lib.itoa n).toArray⟩ := ⟨_, rfl⟩
  have HA := hid_mk (alive_any ht)
  have HG := hid_mk (fun W1 (o : Out 0 0 W W1) => graph_fix (W := W1) (ht.kept o (.inr rfl)) ⟨hn, by omega⟩)
  rw [← hs] at HG
  obtain ⟨z, c0, cd⟩ := text_neg n h0 hs
  obtain ⟨u, hu⟩ : ∃ u : Nat, u = n.natAbs := ⟨_, rfl⟩
  obtain ⟨N, hN⟩ : ∃ N : Nat, N = Lib.nDigits u := ⟨_, rfl⟩
  rw [← hu] at z cd
  have hu1 : 1 ≤ u := by omega
  have hun : n = -(u : Int) := by omega
  have hN1 : 1 ≤ N := by rw [hN]; exact Lib.nDigits_pos u
  have hN2 : N ≤ 20 := by rw [hN]; exact Lib.nDigits_le20 u (by omega)
  have d0 := dig_first u hu1
  have d1 := dig_lt u 0
  rw [← hN] at z cd
  have hz3 : 0 < s.size := by omega
  have hz4 : 1 < s.size := by omega
  have e0 : ((s[0]'hz3).toNat : Int) = 45 := by rw [c0 (by omega)]; rfl
  have e1 : ¬ ((s[1]'hz4).toNat : Int) = 48 := by
    have := cd 0 (by omega) (by omega)
    rw [this]; omega
  have HC := hid_mk cd
  have HZ := hid_mk z
  have hz1 : ¬ (s.size = 0) := by omega
  have hz2 : ¬ ((s.size : Int) = 1) := by omega
  have HU := hid_mk (And.intro hu (And.intro hun hN))
  have HN := hid_mk (And.intro hN1 (And.intro hN2 hu1))
  have HB : Hid (u ≤ 1152921504606846976) := by show u ≤ _; omega
  clear ht hs c0 cd hu hun hN hN1 hN2 hu1 z d0 d1
  go_enter Tryd.func3, Tryd.ntmps3
  go_wp2_with (first
      | (go_at_call 7; refine HA.out.mono ?_; rintro e w1 ⟨rfl, o1⟩)
      | (go_at_call 9; refine (fix_any _ _).mono ?_; rintro e w2 ⟨rfl, o2⟩)
      | (go_at_call 8; refine (HG.out _ (o1.trans o2)).mono ?_; rintro e w3 ⟨rfl, o3⟩; have fN := Bl.new w3 #[.int .i64 0, .int .i64 0] 25; have y0 := fN.cell (i := 0) rfl; have y1 := fN.cell (i := 1) rfl)
      | (go_at_call 11; refine (good_ok _).mono ?_; rintro e w4 ⟨rfl, o4⟩; have HO := hid_mk ((((o1.trans o2).trans o3).alloc (.cells #[.int .i64 0, .int .i64 0] 25)).trans o4); clear o1 o2 o3 o4 fN y0 y1)
      | (go_at_call 10; refine calls_same (num_any _ _) ?_))
  go_loop [7, 8] (fun m k => ∃ j : Nat, 1 ≤ j ∧ j ≤ N + 1 ∧ k = .int .i64 (j : Int) ∧ m = .int .i64 (topV u (j - 1) : Int)) (fun _ k => N + 1 - (Lib.intOf k).toNat)
  case atStart => exact ⟨1, Nat.le_refl _, Nat.le_add_left _ _, rfl, by rw [Nat.sub_self, top_zero]; rfl⟩
  case round =>
    obtain ⟨j, hj1, hj2, rfl, rfl⟩ := hrel
    by_cases hj : j < s.size
    · obtain ⟨b0, q1, q2, q0, hjN⟩ := fx_byte HC.out HZ.out hj1 hj
      have HX := hid_mk (fx_next (t := topV u (j - 1)) HB.out hj1 (Nat.le_of_pred_lt hjN) HN.out.2.1 (top_int u (j - 1) (HU.out.2.2 ▸ hjN)) (dig_lt u (j - 1)) b0)
      generalize topV u (j - 1) = t at HX ⊢
      clear b0
      go_wp2
      exact HX.out
    · obtain ⟨et, q0, q1, q2⟩ := fx_end HU.out HN.out.2.2 hn h0 HZ.out hj2 hj
      rw [et]
      have HQ : Hid ((u : Int) = -n) := fx_neg HU.out.2.1
      clear et q2
      go_wp2
      go_ret
      exact ⟨rfl, HO.out⟩
theorem fx_next0 {u N j t d : Nat} {x : Int} (hu : u ≤ 1152921504606846976) (hjN : j < N) (hN : N ≤ 20) (hst : (10 : Int) * (t : Int) + (d : Int) = (topV u (j + 1) : Int)) (hd : d < 10) (hx : x = 48 + (d : Int)) :
    (∃ j1 : Nat, j1 ≤ N ∧ Value.int .i64 (wrap64 ((j : Int) + 1)) = .int .i64 (j1 : Int) ∧ Value.int .i64 (wrap64 (wrap64 (10 * (t : Int)) + (x - 48))) = .int .i64 (topV u j1 : Int)) ∧ N - (Lib.intOf (.int .i64 (wrap64 ((j : Int) + 1)))).toNat < N - (Lib.intOf (Value.int .i64 (j : Int))).toNat := by
  have hl := top_le u (j + 1)
  have w1 : wrap64 ((j : Int) + 1) = ((j + 1 : Nat) : Int) := by unfold wrap64; push_cast; omega
  have w2 : wrap64 (wrap64 (10 * (t : Int)) + (x - 48)) = (topV u (j + 1) : Int) := by
    rw [← hst, hx]
    have h1 : wrap64 (10 * (t : Int)) = 10 * (t : Int) := by unfold wrap64; omega
    rw [h1]; unfold wrap64; omega
  refine ⟨⟨j + 1, by omega, by rw [w1], by rw [w2]⟩, ?_⟩
  rw [w1]
  simp [Lib.intOf]
  omega
theorem wrap_j {j N : Nat} (h : j < N) (hN : N ≤ 20) : wrap64 ((j : Int) + 1) = (j : Int) + 1 := by unfold wrap64; omega
theorem fx_end0 {s : ByteArray} {N u j : Nat} {n : Int} (hU : u = n.natAbs ∧ n = (u : Int) ∧ N = Lib.nDigits u) (hz : s.size = N + 0) (hj2 : j ≤ N) (hj : ¬ j < s.size) :
    topV u j = u ∧ ¬ (j : Int) < (s.size : Int) ∧ (u : Int) = n := by
  obtain ⟨a, b, c⟩ := hU
  have ej : j = N := by omega
  refine ⟨by rw [ej, c, top_all], by omega, by omega⟩
set_option maxHeartbeats 4000000 in
theorem fixes_pos {W : World} {n : Int} (ht : Tp W) (hn : n ≤ 1152921504606846975) (h0 : 0 ≤ n) :
    Calls Tryd.prog 3 #[.int .i64 n] W fun e w' => e = .returned (.bool true) ∧ Out 0 0 W w' := by
  obtain ⟨s, hs⟩ : ∃ s : ByteArray, s = ⟨(Lib.itoa n).toArray⟩ := ⟨_, rfl⟩
  have HA := hid_mk (alive_any ht)
  have HG := hid_mk (fun W1 (o : Out 0 0 W W1) => graph_fix (W := W1) (ht.kept o (.inr rfl)) ⟨by omega, hn⟩)
  rw [← hs] at HG
  obtain ⟨z, cd⟩ := text_pos n h0 hs
  obtain ⟨u, hu⟩ : ∃ u : Nat, u = n.natAbs := ⟨_, rfl⟩
  obtain ⟨N, hN⟩ : ∃ N : Nat, N = Lib.nDigits u := ⟨_, rfl⟩
  rw [← hu] at z cd
  have hun : n = (u : Int) := by omega
  have hN1 : 1 ≤ N := by rw [hN]; exact Lib.nDigits_pos u
  have hN2 : N ≤ 20 := by rw [hN]; exact Lib.nDigits_le20 u (by omega)
  rw [← hN] at z cd
  have hz3 : 0 < s.size := by omega
  have hd := dig_lt u 0
  have hc := cd 0 (by omega) hz3
  have e0 : ¬ ((s[0]'hz3).toNat : Int) = 45 := by rw [hc]; omega
  have e1 : (((s[0]'hz3).toNat : Int) = 48 ∧ s.size = 1) ∨ ¬ ((s[0]'hz3).toNat : Int) = 48 := by
    by_cases h : u = 0
    · left
      subst h
      have hn1 : Lib.nDigits 0 = 1 := Lib.nDigits_small (by decide)
      rw [hc]
      refine ⟨by unfold digV; simp, by omega⟩
    · right
      have := dig_first u (by omega)
      rw [hc]; omega
  have h0' : ¬ n < 0 := by omega
  have e3 : ((((s[0]'hz3).toNat : Int) == 45) = decide (n < 0)) := by rw [decide_eq_false h0']; simpa using e0
  have HC := hid_mk cd
  have HZ := hid_mk z
  have hz1 : ¬ (s.size = 0) := by omega
  have HU := hid_mk (And.intro hu (And.intro hun hN))
  have HN := hid_mk (And.intro hN1 hN2)
  have HB : Hid (u ≤ 1152921504606846976) := by show u ≤ _; omega
  clear ht hs cd hu hun hN hN1 hN2 z hc hd
  rcases e1 with ⟨e1, e2⟩ | e1
  · go_enter Tryd.func3, Tryd.ntmps3
    go_wp2_with (first
        | (go_at_call 7; refine HA.out.mono ?_; rintro e w1 ⟨rfl, o1⟩)
        | (go_at_call 9; refine (fix_any _ _).mono ?_; rintro e w2 ⟨rfl, o2⟩)
        | (go_at_call 8; refine (HG.out _ (o1.trans o2)).mono ?_; rintro e w3 ⟨rfl, o3⟩; have fN := Bl.new w3 #[.int .i64 0, .int .i64 0] 25; have y0 := fN.cell (i := 0) rfl; have y1 := fN.cell (i := 1) rfl)
        | (go_at_call 11; refine (good_ok _).mono ?_; rintro e w4 ⟨rfl, o4⟩; have HO := hid_mk ((((o1.trans o2).trans o3).alloc (.cells #[.int .i64 0, .int .i64 0] 25)).trans o4); clear o1 o2 o3 o4 fN y0 y1)
        | (go_at_call 10; refine calls_same (num_any _ _) ?_))
    go_loop [7, 8] (fun m k => ∃ j : Nat, j ≤ N ∧ k = .int .i64 (j : Int) ∧ m = .int .i64 (topV u j : Int)) (fun _ k => N - (Lib.intOf k).toNat)
    case atStart => exact ⟨0, Nat.zero_le _, rfl, by rw [top_zero]; rfl⟩
    case round =>
      obtain ⟨j, hj2, rfl, rfl⟩ := hrel
      by_cases hj : j < s.size
      · obtain ⟨b0, q1, q2, q0, hjN⟩ := fx_byte (i := 0) HC.out HZ.out (Nat.zero_le _) hj
        simp only [Nat.sub_zero] at b0 hjN
        have HX := hid_mk (fx_next0 (t := topV u j) HB.out hjN HN.out.2 (top_int u j (HU.out.2.2 ▸ hjN)) (dig_lt u j) b0)
        generalize topV u j = t at HX ⊢
        have HJ := hid_mk (wrap_j (j := j) hjN HN.out.2)
        clear b0
        go_wp2
        first | exact HX.out | (have h := HX.out; rw [HJ.out] at h; exact h)
      · obtain ⟨et, q0, q1⟩ := fx_end0 HU.out HZ.out hj2 hj
        rw [et]
        clear et
        go_wp2
        go_ret
        exact ⟨rfl, HO.out⟩
  · go_enter Tryd.func3, Tryd.ntmps3
    go_wp2_with (first
        | (go_at_call 7; refine HA.out.mono ?_; rintro e w1 ⟨rfl, o1⟩)
        | (go_at_call 9; refine (fix_any _ _).mono ?_; rintro e w2 ⟨rfl, o2⟩)
        | (go_at_call 8; refine (HG.out _ (o1.trans o2)).mono ?_; rintro e w3 ⟨rfl, o3⟩; have fN := Bl.new w3 #[.int .i64 0, .int .i64 0] 25; have y0 := fN.cell (i := 0) rfl; have y1 := fN.cell (i := 1) rfl)
        | (go_at_call 11; refine (good_ok _).mono ?_; rintro e w4 ⟨rfl, o4⟩; have HO := hid_mk ((((o1.trans o2).trans o3).alloc (.cells #[.int .i64 0, .int .i64 0] 25)).trans o4); clear o1 o2 o3 o4 fN y0 y1)
        | (go_at_call 10; refine calls_same (num_any _ _) ?_))
    go_loop [7, 8] (fun m k => ∃ j : Nat, j ≤ N ∧ k = .int .i64 (j : Int) ∧ m = .int .i64 (topV u j : Int)) (fun _ k => N - (Lib.intOf k).toNat)
    case atStart => exact ⟨0, Nat.zero_le _, rfl, by rw [top_zero]; rfl⟩
    case round =>
      obtain ⟨j, hj2, rfl, rfl⟩ := hrel
      by_cases hj : j < s.size
      · obtain ⟨b0, q1, q2, q0, hjN⟩ := fx_byte (i := 0) HC.out HZ.out (Nat.zero_le _) hj
        simp only [Nat.sub_zero] at b0 hjN
        have HX := hid_mk (fx_next0 (t := topV u j) HB.out hjN HN.out.2 (top_int u j (HU.out.2.2 ▸ hjN)) (dig_lt u j) b0)
        generalize topV u j = t at HX ⊢
        have HJ := hid_mk (wrap_j (j := j) hjN HN.out.2)
        clear b0
        go_wp2
        first | exact HX.out | (have h := HX.out; rw [HJ.out] at h; exact h)
      · obtain ⟨et, q0, q1⟩ := fx_end0 HU.out HZ.out hj2 hj
        rw [et]
        clear et
        go_wp2
        go_ret
        exact ⟨rfl, HO.out⟩
theorem fixes_any {W : World} {n : Int} (ht : Tp W) :
    Calls Tryd.prog 3 #[.int .i64 n] W fun e w' => e = .returned (.bool true) ∧ Out 0 0 W w' := by
  by_cases h1 : 1152921504606846975 < n
  · exact fixes_out ht (by rw [valid1_v]; unfold fitsB_v; simp; omega) (.inl h1)
  by_cases h2 : n < -1152921504606846976
  · exact fixes_out ht (by rw [valid1_v]; unfold fitsB_v; simp; omega) (.inr h2)
  by_cases h3 : n < 0
  · exact fixes_neg ht (by omega) h3
  · exact fixes_pos ht (by omega) (by omega)
end Go.Proofs.YtkgdignpjammbaaDoor
