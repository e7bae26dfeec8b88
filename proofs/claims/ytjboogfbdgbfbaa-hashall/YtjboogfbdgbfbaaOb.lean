/- hash: the document's own -/
import Derived.Test.YtjboogfbdgbfbaaOa
namespace Go.Proofs.Ytjboogfbdgbfbaa
open Go.ChangeShapes Go.WideShapes Go.ChangeAt Go.RowKit
set_option linter.unusedVariables false
set_option linter.unusedSimpArgs false

def Pw (j : Int) : Prop := j = 4 ∨ j = 8 ∨ j = 16 ∨ j = 32 ∨ j = 64 ∨ j = 128 ∨ j = 256 ∨ j = 512 ∨ j = 1024
theorem pw_next {j n : Int} (h : Pw j) (hn : Cap n → j ≤ n) (hl : j ≤ 512) (hj : n ≠ j) : Pw (2 * j) ∧ (Cap n → 2 * j ≤ n) := by
  unfold Pw Cap at *; omega
theorem pw_end {j n : Int} (h : Pw j) (hn : Cap n → j ≤ n) (hl : ¬j ≤ 512) : capB n = false := cap_false (by unfold Pw Cap at *; omega)
theorem pw_hit {j : Int} (h : Pw j) (hl : j ≤ 512) : capB j = true := cap_true (by unfold Pw Cap at *; omega)
theorem pw_range {j : Int} (h : Pw j) : 4 ≤ j ∧ j ≤ 1024 := by unfold Pw at *; omega
theorem spine_any (n : Int) (w : World) : Calls Try.prog 19 #[.int .i64 n] w fun e w' => e = .returned (.bool (capB n)) ∧ w' = w := by
  have C1 := hid_mk (@pw_next · n)
  have C2 := hid_mk (@pw_end · n)
  have C0 : Hid (Cap n → 4 ≤ n) := hid_mk (by unfold Cap; omega)
  have C3 : Hid (∀ j, n = j → Pw j → j ≤ 512 → capB n = true) := hid_mk (by rintro j rfl h1 h2; exact pw_hit h1 h2)
  generalize capB n = b at *
  generalize Cap n = cn at *
  go_enter Try.func19, Try.ntmps19
  go_wp2
  go_loopw [2, 3] (fun ok k wr => ∃ j : Int, ok = .bool false ∧ k = .int .i64 j ∧ Pw j ∧ Hid (cn → j ≤ n) ∧ wr = w) (fun _ k _ => (2048 - intOf k).toNat)
  case atStart => exact ⟨4, rfl, rfl, .inl rfl, C0, rfl⟩
  case round =>
    clear C0
    obtain ⟨j, rfl, rfl, P, HN, rfl⟩ := hrel
    obtain ⟨r1, r2⟩ := pw_range P
    have e2 : wrap64 (2 * j) = 2 * j := wrap_in _ (by omega) (by omega)
    have HP := hid_mk P
    clear P
    by_cases hl : j ≤ 512
    · by_cases hj : n = j
      · have e1 : (n == j) = true := by simpa using hj
        have eb := C3.out j hj HP.out hl
        subst eb
        clear hj
        go_wp2
        go_ret
        exact ⟨rfl, rfl⟩
      · have e1 : (n == j) = false := by simpa using hj
        obtain ⟨n1, n2⟩ := C1.out j HP.out HN.out hl hj
        have N1 := hid_mk n1
        have N2 := hid_mk n2
        clear n1 n2 hj
        go_wp2
        go_roundw
        case rel => exact ⟨2 * j, rfl, rfl, N1.out, N2, trivial⟩
        case measure => simp [intOf]; omega
    · have eb := C2.out j HP.out HN.out (by omega)
      subst eb
      go_wp2
      go_ret
      exact ⟨rfl, rfl⟩
theorem tmod_cap (h c : Int) (hc : 0 < c) : (h.tmod c < 0 → h.tmod c + c = h % c) ∧ (¬h.tmod c < 0 → h.tmod c = h % c) ∧ -c < h.tmod c ∧ h.tmod c < c := by
  have := Int.tmod_lt_of_pos h hc
  have e := Int.emod_eq_tmod (a := h) (b := c)
  have l1 := Int.lt_tmod_of_pos h hc
  have m1 := Int.emod_nonneg h (Int.ne_of_gt hc)
  have m2 := Int.emod_lt_of_pos h hc
  refine ⟨?_, ?_, ?_, ?_⟩
  · intro q
    rw [e, if_neg]
    · rw [Int.natAbs_of_nonneg (Int.le_of_lt hc)]
    · rintro (z | z)
      · exact absurd (Int.tmod_nonneg c z) (by omega)
      · have := Int.tmod_eq_zero_of_dvd z; omega
  · intro q
    rw [e]
    split
    · omega
    · rename_i z
      exfalso
      rw [if_neg z] at e
      rw [Int.natAbs_of_nonneg (Int.le_of_lt hc)] at e
      omega
  · omega
  · omega
theorem refSlot_any (h c : Int) (w : World) : Calls Try.prog 12 #[.int .i64 h, .int .i64 c] w fun e w' => e = .returned (.int .i64 (slotV h c)) ∧ w' = w := by
  have C := hid_mk (spine_any c)
  by_cases hc : Cap c
  · have e : slotV h c = h % c := by unfold slotV; rw [cap_true hc]; rfl
    rw [cap_true hc] at C
    obtain ⟨r1, r2⟩ := cap_pos hc
    have t := tmod_cap h c (by omega)
    have z : (c == 0) = false := by simp; omega
    rw [e]
    clear e hc
    obtain ⟨t1, t2, t3, t4⟩ := t
    generalize h % c = r at *
    by_cases hs : h.tmod c < 0
    · have q := t1 hs
      have e3 : wrap64 (h.tmod c + c) = r := by rw [q, wrap_in _ (by omega) (by omega)]
      clear t1 t2
      go_enter Try.func12, Try.ntmps12
      go_wp2_with (go_at_call 19; refine calls_same (C.out _) ?_)
      go_ret
      exact ⟨rfl, rfl⟩
    · have q := t2 hs
      clear t1 t2
      go_enter Try.func12, Try.ntmps12
      go_wp2_with (go_at_call 19; refine calls_same (C.out _) ?_)
      go_ret
      exact ⟨rfl, rfl⟩
  · have e : slotV h c = -1 := by unfold slotV; rw [cap_false hc]; rfl
    rw [cap_false hc] at C
    rw [e]
    clear e hc
    go_enter Try.func12, Try.ntmps12
    go_wp2_with (go_at_call 19; refine calls_same (C.out _) ?_)
    go_ret
    exact ⟨rfl, rfl⟩
theorem refHeads_any (c : Int) (w : World) : Calls Try.prog 14 #[.int .i64 c] w fun e w' => e = .returned (.int .i64 (headsV c)) ∧ w' = w := by
  have C := hid_mk (spine_any c)
  by_cases h0 : c = 0
  · subst h0
    go_enter Try.func14, Try.ntmps14
    go_wp2
    go_ret
    exact ⟨rfl, rfl⟩
  · have e0 : (c == 0) = false := by simpa using h0
    have e : headsV c = if capB c && decide (c < 512) then 2 * c else 0 := by unfold headsV; rw [if_neg h0]
    rw [e]; clear e
    by_cases hc : Cap c
    · rw [cap_true hc] at C ⊢
      obtain ⟨r1, r2⟩ := cap_pos hc
      have e2 : wrap64 (2 * c) = 2 * c := by rw [wrap_in _ (by omega) (by omega)]
      by_cases h5 : c = 512
      · subst h5
        clear hc
        go_enter Try.func14, Try.ntmps14
        go_wp2_with (go_at_call 19; refine calls_same (C.out _) ?_)
        go_ret
        exact ⟨rfl, rfl⟩
      · have e5 : (c != 512) = true := by simpa using h5
        have e : (if (true && decide (c < 512)) = true then 2 * c else 0) = 2 * c := by rw [decide_eq_true (show c < 512 by omega)]; rfl
        rw [e]
        clear hc e
        go_enter Try.func14, Try.ntmps14
        go_wp2_with (go_at_call 19; refine calls_same (C.out _) ?_)
        go_ret
        exact ⟨rfl, rfl⟩
    · rw [cap_false hc] at C ⊢
      clear hc
      go_enter Try.func14, Try.ntmps14
      go_wp2_with (go_at_call 19; refine calls_same (C.out _) ?_)
      go_ret
      exact ⟨rfl, rfl⟩
theorem heads_parts (n c : Int) : (c = 0 → growsB n c = true) ∧ (¬c = 0 → ¬0 < headsV c → growsB n c = false) ∧ (¬c = 0 → 0 < headsV c → 4 ≤ c ∧ c ≤ 512 ∧ growsB n c = decide (2 * c ≤ n)) := by
  unfold growsB headsV
  refine ⟨by rintro rfl; simp, ?_, ?_⟩
  · intro h0
    rw [if_neg h0]
    cases hb : (capB c && decide (c < 512)) <;> intro q
    · simp [h0]
    · exfalso
      obtain ⟨b1, b2⟩ := Bool.and_eq_true_iff.1 hb
      obtain ⟨r1, r2⟩ := cap_pos (of_decide_eq_true b1)
      rw [if_pos rfl] at q
      omega
  · intro h0
    rw [if_neg h0]
    cases hb : (capB c && decide (c < 512)) <;> intro q
    · simp at q
    · obtain ⟨b1, b2⟩ := Bool.and_eq_true_iff.1 hb
      obtain ⟨r1, r2⟩ := cap_pos (of_decide_eq_true b1)
      refine ⟨r1, r2, ?_⟩
      simp [h0]
theorem refGrows_any (n c : Int) (w : World) : Calls Try.prog 16 #[.int .i64 n, .int .i64 c] w fun e w' => e = .returned (.bool (growsB n c)) ∧ w' = w := by
  have C := hid_mk (refHeads_any c)
  obtain ⟨p1, p2, p3⟩ := heads_parts n c
  generalize growsB n c = b at *
  generalize headsV c = v at *
  by_cases h0 : c = 0
  · have e := p1 h0
    have e0 : (c == 0) = true := by simpa using h0
    subst e
    clear p1 p2 p3 h0
    go_enter Try.func16, Try.ntmps16
    go_wp2
    go_ret
    exact ⟨rfl, rfl⟩
  · have e0 : (c == 0) = false := by simpa using h0
    by_cases hv : 0 < v
    · obtain ⟨r1, r2, e⟩ := p3 h0 hv
      have e2 : wrap64 (2 * c) = 2 * c := by rw [wrap_in _ (by omega) (by omega)]
      subst e
      clear p1 p2 p3 h0
      go_enter Try.func16, Try.ntmps16
      go_wp2_with (go_at_call 14; refine calls_same (C.out _) ?_)
      all_goals go_ret
      all_goals exact ⟨rfl, rfl⟩
    · have e := p2 h0 hv
      subst e
      clear p1 p2 p3 h0
      go_enter Try.func16, Try.ntmps16
      go_wp2_with (go_at_call 14; refine calls_same (C.out _) ?_)
      all_goals go_ret
      all_goals exact ⟨rfl, rfl⟩
end Go.Proofs.Ytjboogfbdgbfbaa
