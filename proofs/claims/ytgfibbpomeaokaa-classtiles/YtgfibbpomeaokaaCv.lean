/- ClassTiles -/
import Derived.Test.YtgfibbpomeaokaaCs
namespace Go.Proofs.Ytgfibbpomeaokaa
open Go.ChangeShapes Go.WideShapes Go.ChangeAt Go.RowKit
set_option linter.unusedVariables false
set_option linter.unusedSimpArgs false

theorem start_none (c : Int) (i : Int) (h : i < 0 ∨ blocksV c ≤ i) : startV c i = -1 := by unfold startV; rw [if_neg (by omega)]
theorem start_some (c : Int) (k : Nat) (h : (k : Int) < blocksV c) : startV c k = k * wordsV c := by unfold startV; rw [if_pos (by omega)]
theorem index_none (c o : Int) (h : wordsV c = 0) : indexV c o = -1 := by unfold indexV; rw [if_neg (by omega)]
set_option maxHeartbeats 800000 in
theorem tiles_none (c o : Int) (w : World) (o1 : -9223372036854775808 ≤ o) (o2 : o ≤ 9223372036854775807) (hx : wordsV c = 0) (hy : blocksV c = 0) (hc : c < 0 ∨ 8 ≤ c) : Calls Try.prog 8 #[.int .i64 c, .int .i64 o] w fun e w' => e = .returned (.bool true) ∧ Below w.heap.size w w' := by
  have b0 := Below.refl w.heap.size w
  have HW := hid_mk (words_at c 0 hx)
  have HB := hid_mk (blocks_at c 0 hy)
  have HS : Hid (∀ w, Calls Try.prog 16 #[.int .i64 c, .int .i64 o] w fun e w' => e = .returned (.int .i64 (-1)) ∧ Below w.heap.size w w') := by
    have := start_any c o; rw [start_none c o (by omega)] at this; exact hid_mk this
  have HI : Hid (∀ w, Calls Try.prog 17 #[.int .i64 c, .int .i64 o] w fun e w' => e = .returned (.int .i64 (-1)) ∧ Below w.heap.size w w') := by
    have := fun w => index_any c o w o1 o2; rw [index_none c o hx] at this; exact hid_mk this
  clear hx hy o1 o2
  rcases hc with hc | hc
  · have d1 : decide (0 ≤ c) = false := by rw [decide_eq_false_iff_not]; omega
    go_enter Try.func8, Try.ntmps8
    go_wp2_with (first
      | (go_at_call 9; refine (calls_rel (alive_any _) (by assumption)).mono ?_; rintro e w1 ⟨rfl, hg⟩)
      | (go_at_call 12; refine (calls_rel (HW.out _) (by assumption)).mono ?_; rintro e w1 ⟨rfl, hg⟩)
      | (go_at_call 13; refine (calls_rel (HB.out _) (by assumption)).mono ?_; rintro e w1 ⟨rfl, hg⟩)
      | (go_at_call 16; refine (calls_rel (HS.out _) (by assumption)).mono ?_; rintro e w1 ⟨rfl, hg⟩)
      | (go_at_call 17; refine (calls_rel (HI.out _) (by assumption)).mono ?_; rintro e w1 ⟨rfl, hg⟩))
    go_ret
    exact ⟨rfl, by assumption⟩
  · have d2 : decide (c < 8) = false := by rw [decide_eq_false_iff_not]; omega
    go_enter Try.func8, Try.ntmps8
    go_wp2_with (first
      | (go_at_call 9; refine (calls_rel (alive_any _) (by assumption)).mono ?_; rintro e w1 ⟨rfl, hg⟩)
      | (go_at_call 12; refine (calls_rel (HW.out _) (by assumption)).mono ?_; rintro e w1 ⟨rfl, hg⟩)
      | (go_at_call 13; refine (calls_rel (HB.out _) (by assumption)).mono ?_; rintro e w1 ⟨rfl, hg⟩)
      | (go_at_call 16; refine (calls_rel (HS.out _) (by assumption)).mono ?_; rintro e w1 ⟨rfl, hg⟩)
      | (go_at_call 17; refine (calls_rel (HI.out _) (by assumption)).mono ?_; rintro e w1 ⟨rfl, hg⟩))
    go_ret
    exact ⟨rfl, by assumption⟩

/-- the block that begins at o, among the first k -/
def atV (x o : Int) (k : Nat) : Int := if 0 ≤ o ∧ o % x = 0 ∧ o / x < k then o / x else -1
theorem at_zero (x o : Int) (hx : 0 < x) : atV x o 0 = -1 := by
  unfold atV
  by_cases h : 0 ≤ o
  · have := Int.ediv_nonneg h (Int.le_of_lt hx); rw [if_neg (by omega)]
  · rw [if_neg (by omega)]
theorem at_hit (x o : Int) (k : Nat) (hx : 0 < x) (h : (k : Int) * x = o) : atV x o (k + 1) = k := by
  have hd : o / x = k := by rw [← h]; exact Int.mul_ediv_cancel _ (by omega)
  have hm : o % x = 0 := by rw [← h]; exact Int.mul_emod_left _ _
  have hn : 0 ≤ o := by rw [← h]; exact Int.mul_nonneg (by omega) (by omega)
  unfold atV; rw [hd, if_pos ⟨hn, hm, by omega⟩]
theorem at_miss (x o : Int) (k : Nat) (hx : 0 < x) (h : (k : Int) * x ≠ o) : atV x o (k + 1) = atV x o k := by
  unfold atV
  by_cases hc : 0 ≤ o ∧ o % x = 0 ∧ o / x = k
  · exfalso
    obtain ⟨h1, h2, h3⟩ := hc
    have he := Int.mul_ediv_add_emod o x
    rw [h3, Int.mul_comm] at he
    exact h (by omega)
  · by_cases h2 : 0 ≤ o ∧ o % x = 0 ∧ o / x < k
    · rw [if_pos h2, if_pos (by omega)]
    · rw [if_neg h2, if_neg (by omega)]
theorem at_all (c o : Int) (k : Nat) (hx : 0 < wordsV c) (hk : (k : Int) = blocksV c) : atV (wordsV c) o k = indexV c o := by
  unfold atV indexV; rw [hk]
  by_cases h : 0 ≤ o ∧ o % wordsV c = 0 ∧ o / wordsV c < blocksV c
  · rw [if_pos h, if_pos ⟨hx, h⟩]
  · rw [if_neg h, if_neg (fun g => h g.2)]
theorem tile_facts (c : Int) (hx : 0 < wordsV c) : 0 ≤ c ∧ c < 8 ∧ 0 < blocksV c ∧ blocksV c * wordsV c ≤ 64 ∧ 64 < (blocksV c + 1) * wordsV c := by
  rcases class_told c with ⟨x, y, hx', hy', c0, c7, h⟩ | ⟨hx', hy', hc⟩
  · rw [hx', hy']
    rcases h with ⟨rfl, rfl, rfl⟩ | ⟨rfl, rfl, rfl⟩ | ⟨rfl, rfl, rfl⟩ | ⟨rfl, rfl, rfl⟩ | ⟨rfl, rfl, rfl⟩ | ⟨rfl, rfl, rfl⟩ | ⟨rfl, rfl, rfl⟩ | ⟨rfl, rfl, rfl⟩ <;> decide
  · omega
set_option maxHeartbeats 1600000 in
theorem tiles_some (c o : Int) (w : World) (o1 : -9223372036854775808 ≤ o) (o2 : o ≤ 9223372036854775807) (hx : 0 < wordsV c) : Calls Try.prog 8 #[.int .i64 c, .int .i64 o] w fun e w' => e = .returned (.bool true) ∧ Below w.heap.size w w' := by
  have h0 := Below.refl w.heap.size w
  obtain ⟨c1, c2, y1, p1, p2⟩ := tile_facts c hx
  obtain ⟨_, x2⟩ := wordsV_range c
  obtain ⟨_, y2⟩ := blocksV_range c
  have s1 := start_none c (blocksV c) (.inr (Int.le_refl _))
  have s2 := start_none c (-1) (.inl (by omega))
  have SS := hid_mk (start_some c)
  have HH := hid_mk (fun k o => index_hit (c := c) (o := o) (k := k) hx)
  have HA := hid_mk (fun k => at_all c o k hx)
  have A0 := at_zero (wordsV c) o hx
  have AH := hid_mk (fun k => at_hit (wordsV c) o k hx)
  have AM := hid_mk (fun k => at_miss (wordsV c) o k hx)
  have HI := hid_mk (fun w => index_any c o w o1 o2)
  clear o1 o2
  have HW := hid_mk (words_at c _ rfl)
  have HB := hid_mk (blocks_at c _ rfl)
  generalize hq : indexV c o = q at *
  clear hq
  generalize blocksV c = y at *
  generalize wordsV c = x at *
  have q1 : wrap64 (y * x) = y * x := by have := Int.mul_nonneg (Int.le_of_lt y1) (Int.le_of_lt hx); unfold wrap64; omega
  have q3 : (y + 1) * x ≤ 33 * 32 := Int.mul_le_mul (by omega) x2 (by omega) (by omega)
  have q2 : wrap64 ((y + 1) * x) = (y + 1) * x := by unfold wrap64; omega
  clear q3
  have ex : (x == 0) = false := by rw [beq_eq_false_iff_ne]; omega
  go_enter Try.func8, Try.ntmps8
  go_wp2_with (first
    | (go_at_call 9; refine (calls_rel (alive_any _) (by assumption)).mono ?_; rintro e w1 ⟨rfl, hg⟩)
    | (go_at_call 12; refine (calls_rel (HW.out _) (by assumption)).mono ?_; rintro e w1 ⟨rfl, hg⟩)
    | (go_at_call 13; refine (calls_rel (HB.out _) (by assumption)).mono ?_; rintro e w1 ⟨rfl, hg⟩)
    | (go_at_call 16; refine (calls_rel (start_any _ _ _) (by assumption)).mono ?_; rintro e w1 ⟨rfl, hg⟩))
  have hB : Below w.heap.size w w1 := by assumption
  go_loopw [7, 8] (fun a i wr => ∃ k : Nat, (k : Int) ≤ y ∧ i = .int .i64 k ∧ a = .int .i64 (atV x o k) ∧ Below w.heap.size w wr) (fun _ i _ => 32 - (intOf i).toNat)
  case atStart => exact ⟨0, by omega, by simp, by rw [A0], hB⟩
  case round =>
    obtain ⟨k, hk, rfl, rfl, hR⟩ := hrel
    by_cases hky : (k : Int) < y
    · have hk64 : (k : Int) < 64 := by omega
      have hp1 : 0 ≤ (k : Int) * x := Int.mul_nonneg (by omega) (by omega)
      have hp2 : (k : Int) * x ≤ 32 * 32 := Int.mul_le_mul (by omega) x2 (by omega) (by omega)
      have hwr : wrap64 ((k : Int) * x) = (k : Int) * x := by unfold wrap64; omega
      have HSk : Hid (∀ w, Calls Try.prog 16 #[.int .i64 c, .int .i64 k] w fun e w' => e = .returned (.int .i64 ((k : Int) * x)) ∧ Below w.heap.size w w') := by
        have := start_any c k; rw [SS.out k hky] at this; exact hid_mk this
      have HIk : Hid (∀ w, Calls Try.prog 17 #[.int .i64 c, .int .i64 ((k : Int) * x)] w fun e w' => e = .returned (.int .i64 k) ∧ Below w.heap.size w w') := by
        have := fun w => index_any c ((k : Int) * x) w (by omega) (by omega); rw [HH.out k _ hky rfl] at this; exact hid_mk this
      have ez : ((k : Int) * x != (k : Int) * x) = false := by simp
      have ek : ((k : Int) != (k : Int)) = false := by simp
      by_cases he : (k : Int) * x = o
      · have ha := AH.out k he
        have he' : ((k : Int) * x == o) = true := by simpa using he
        clear he
        go_wp2_with (first
          | (go_at_call 16; refine (calls_rel (HSk.out _) (by assumption)).mono ?_; rintro e w1 ⟨rfl, hg⟩)
          | (go_at_call 17; refine (calls_rel (HIk.out _) (by assumption)).mono ?_; rintro e w1 ⟨rfl, hg⟩))
        go_roundw
        case rel => exact ⟨k + 1, by omega, by simp, by rw [ha], by assumption⟩
        case measure => simp [intOf]; omega
      · have ha := AM.out k he
        have he' : ((k : Int) * x == o) = false := by simpa using he
        clear he
        generalize hv : atV x o k = v at *
        go_wp2_with (first
          | (go_at_call 16; refine (calls_rel (HSk.out _) (by assumption)).mono ?_; rintro e w1 ⟨rfl, hg⟩)
          | (go_at_call 17; refine (calls_rel (HIk.out _) (by assumption)).mono ?_; rintro e w1 ⟨rfl, hg⟩))
        go_roundw
        case rel => exact ⟨k + 1, by omega, by simp, by rw [ha], by assumption⟩
        case measure => simp [intOf]; omega
    · have hke : (k : Int) = y := by omega
      have ha := HA.out k hke
      subst hke
      rw [ha]
      go_wp2_with (go_at_call 17; refine (calls_rel (HI.out _) (by assumption)).mono ?_; rintro e w1 ⟨rfl, hg⟩)
      go_ret
      exact ⟨rfl, by assumption⟩
end Go.Proofs.Ytgfibbpomeaokaa
