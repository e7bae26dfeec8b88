/- the document's own answers -/
import Derived.Test.YtgfibbpomeaokaaCc
namespace Go.Proofs.Ytgfibbpomeaokaa
open Go.ChangeShapes Go.WideShapes Go.ChangeAt Go.RowKit
set_option linter.unusedVariables false
set_option linter.unusedSimpArgs false

theorem wordsV_step (j : Nat) (h : j < 7) : (j < 3 ∧ wordsV (j + 1 : Nat) = wordsV j + 2) ∨ (3 ≤ j ∧ j < 6 ∧ wordsV (j + 1 : Nat) = wordsV j + 4) ∨ (6 ≤ j ∧ wordsV (j + 1 : Nat) = wordsV j + 12) := by
  have hi : j = 0 ∨ j = 1 ∨ j = 2 ∨ j = 3 ∨ j = 4 ∨ j = 5 ∨ j = 6 := by omega
  rcases hi with rfl | rfl | rfl | rfl | rfl | rfl | rfl <;> decide
theorem wordsV_range (c : Int) : 0 ≤ wordsV c ∧ wordsV c ≤ 32 := by rcases class_told c with ⟨x, y, hx, hy, c0, c7, h⟩ | ⟨hx, hy, hc⟩ <;> omega
theorem blocksV_range (c : Int) : 0 ≤ blocksV c ∧ blocksV c ≤ 32 := by rcases class_told c with ⟨x, y, hx, hy, c0, c7, h⟩ | ⟨hx, hy, hc⟩ <;> omega
set_option maxHeartbeats 800000 in
theorem refWords_any (c : Int) (w : World) : Calls Try.prog 20 #[.int .i64 c] w fun e w' => e = .returned (.int .i64 (wordsV c)) ∧ w' = w := by
  by_cases hc : 0 ≤ c ∧ c < 8
  · obtain ⟨h1, h2⟩ := hc
    obtain ⟨k, rfl⟩ : ∃ k : Nat, c = k := ⟨c.toNat, by omega⟩
    have hk : k < 8 := by omega
    go_enter Try.func20, Try.ntmps20
    go_wp2
    go_loopw [3, 4] (fun n i wr => ∃ j : Nat, j ≤ k ∧ i = .int .i64 j ∧ n = .int .i64 (wordsV j) ∧ wr = w) (fun _ i _ => k - (intOf i).toNat)
    case atStart => exact ⟨0, by omega, by simp, by rfl, rfl⟩
    case round =>
      obtain ⟨j, hj, rfl, rfl, rfl⟩ := hrel
      by_cases hjk : j < k
      · have hjk' : (j : Int) < k := by omega
        have hr := wordsV_range j
        have hs := wordsV_step j (by omega)
        generalize hx : wordsV (j + 1 : Nat) = x' at hs
        generalize wordsV j = x at *
        obtain ⟨r1, r2⟩ := hr
        rcases hs with ⟨s1, s2⟩ | ⟨s1, s2, s3⟩ | ⟨s1, s2⟩
        all_goals
          go_wp2
          go_roundw
          case rel => exact ⟨j + 1, by omega, by simp, by rw [hx]; simp; omega, trivial⟩
          case measure => simp [intOf]; omega
      · have : j = k := by omega
        subst this
        go_wp2
        go_ret
        exact ⟨rfl, rfl⟩
  · have hc : c < 0 ∨ 8 ≤ c := by omega
    rw [wordsV_out hc]
    rcases hc with h | h
    all_goals
      go_enter Try.func20, Try.ntmps20
      go_wp2
      go_ret
      exact ⟨rfl, rfl⟩
theorem refWords_at (c v : Int) (h : wordsV c = v) (w : World) : Calls Try.prog 20 #[.int .i64 c] w fun e w' => e = .returned (.int .i64 v) ∧ w' = w := by
  rw [← h]; exact refWords_any c w
/-- as many as fit -/
theorem fit (c : Int) (x y : Int) (hx : wordsV c = x) (hy : blocksV c = y) (n : Nat) : 0 < x → (((n + 1 : Int) * x ≤ 64) ↔ (n : Int) < y) := by
  intro h0
  rcases class_told c with ⟨x', y', hx', hy', c0, c7, h⟩ | ⟨hx', hy', hc⟩
  · rw [hx] at hx'; rw [hy] at hy'; subst hx' hy'
    rcases h with ⟨_, rfl, rfl⟩ | ⟨_, rfl, rfl⟩ | ⟨_, rfl, rfl⟩ | ⟨_, rfl, rfl⟩ | ⟨_, rfl, rfl⟩ | ⟨_, rfl, rfl⟩ | ⟨_, rfl, rfl⟩ | ⟨_, rfl, rfl⟩ <;> omega
  · omega
theorem words_none {c : Int} (h : wordsV c = 0) : blocksV c = 0 := by rcases class_told c with ⟨x, y, hx, hy, c0, c7, h⟩ | ⟨hx, hy, hc⟩ <;> omega
set_option maxHeartbeats 800000 in
theorem refBlocks_any (c : Int) (w : World) : Calls Try.prog 21 #[.int .i64 c] w fun e w' => e = .returned (.int .i64 (blocksV c)) ∧ w' = w := by
  have H := hid_mk (refWords_at c _ rfl)
  have HF := hid_mk (fit c _ _ rfl rfl)
  have HN := hid_mk (words_none (c := c))
  obtain ⟨x1, x2⟩ := wordsV_range c
  obtain ⟨y1, y2⟩ := blocksV_range c
  generalize blocksV c = y at *
  generalize wordsV c = x at *
  go_enter Try.func21, Try.ntmps21
  go_wp2_with (go_at_call 20; refine calls_same (H.out _) ?_)
  go_loopw [4] (fun n wr => ∃ k : Nat, (k : Int) ≤ y ∧ n = .int .i64 k ∧ wr = w) (fun n _ => 32 - (intOf n).toNat)
  case atStart => exact ⟨0, by omega, by simp, rfl⟩
  case round =>
    obtain ⟨k, hk, rfl, rfl⟩ := hrel
    by_cases hx : x = 0
    · have hy := HN.out hx
      subst hx
      have : k = 0 := by omega
      subst this hy
      go_wp2
      go_ret
      exact ⟨rfl, rfl⟩
    · have hx0 : 0 < x := by omega
      have hf := HF.out k hx0
      have hp1 : 0 ≤ ((k : Int) + 1) * x := Int.mul_nonneg (by omega) x1
      have hp2 : ((k : Int) + 1) * x ≤ 33 * 32 := Int.mul_le_mul (by omega) x2 x1 (by omega)
      have hwr : wrap64 (((k : Int) + 1) * x) = ((k : Int) + 1) * x := by unfold wrap64; omega
      by_cases hky : (k : Int) < y
      · have hz := hf.2 hky
        go_wp2
        go_roundw
        case rel => exact ⟨k + 1, by omega, by simp, trivial⟩
        case measure => simp [intOf]; omega
      · have : y = k := by omega
        have hz : 64 < ((k : Int) + 1) * x := by have := fun h => hky (hf.1 h); omega
        subst this
        go_wp2
        go_ret
        exact ⟨rfl, rfl⟩
theorem refBlocks_at (c v : Int) (h : blocksV c = v) (w : World) : Calls Try.prog 21 #[.int .i64 c] w fun e w' => e = .returned (.int .i64 v) ∧ w' = w := by
  rw [← h]; exact refBlocks_any c w
set_option maxHeartbeats 800000 in
theorem refOf_any (s : Int) (w : World) : Calls Try.prog 18 #[.int .i64 s] w fun e w' => e = .returned (.int .i64 (ofV s)) ∧ w' = w := by
  by_cases hs : 1 ≤ s ∧ s ≤ 1024
  · obtain ⟨s1, s2⟩ := hs
    have HF := hid_mk (of_first s1 s2)
    obtain ⟨q1, q2⟩ := ofV_in s1 s2
    generalize ofV s = q at *
    go_enter Try.func18, Try.ntmps18
    go_wp2
    go_loopw [3] (fun i wr => ∃ k : Nat, (k : Int) ≤ q ∧ i = .int .i64 k ∧ wr = w) (fun i _ => 8 - (intOf i).toNat)
    case atStart => exact ⟨0, by omega, by simp, rfl⟩
    case round =>
      obtain ⟨k, hk, rfl, rfl⟩ := hrel
      by_cases hk8 : k < 8
      · have hf := HF.out k hk8
        have hk8' : (k : Int) < 8 := by omega
        have HW := hid_mk (refWords_at k _ rfl)
        generalize wordsV k = x at hf HW
        by_cases hx : x < s
        · have hkq := hf.1 hx
          go_wp2_with (go_at_call 20; refine calls_same (HW.out _) ?_)
          go_roundw
          case rel => exact ⟨k + 1, by omega, by simp, trivial⟩
          case measure => simp [intOf]; omega
        · have hx' : s ≤ x := by omega
          have hkq : q = k := by have := fun h => hx (hf.2 h); omega
          subst hkq
          go_wp2_with (go_at_call 20; refine calls_same (HW.out _) ?_)
          go_ret
          exact ⟨rfl, rfl⟩
      · have hkq : k = 8 := by omega
        have : q = 8 := by omega
        subst hkq this
        go_wp2
        go_ret
        exact ⟨rfl, rfl⟩
  · have hs : s < 1 ∨ 1024 < s := by omega
    rw [ofV_out hs]
    rcases hs with h | h
    all_goals
      go_enter Try.func18, Try.ntmps18
      go_wp2
      go_ret
      exact ⟨rfl, rfl⟩
theorem refOf_at (s v : Int) (h : ofV s = v) (w : World) : Calls Try.prog 18 #[.int .i64 s] w fun e w' => e = .returned (.int .i64 v) ∧ w' = w := by
  rw [← h]; exact refOf_any s w
set_option maxHeartbeats 800000 in
theorem refPages_any (s : Int) (w : World) : Calls Try.prog 19 #[.int .i64 s] w fun e w' => e = .returned (.int .i64 (pagesV s)) ∧ w' = w := by
  by_cases hs : 32 < s ∧ s ≤ 1024
  · have HO := hid_mk (refOf_at s 8 (ofV_eight.2 hs))
    have hp : pagesV s = (s + 63) / 64 := by unfold pagesV; rw [if_pos hs]
    rw [hp]
    obtain ⟨s1, s2⟩ := hs
    have HF : ∀ n : Nat, ((n : Int) * 64 < s ↔ (n : Int) < (s + 63) / 64) := by intro n; omega
    have hq : 0 ≤ (s + 63) / 64 ∧ (s + 63) / 64 ≤ 16 := by omega
    obtain ⟨q1, q2⟩ := hq
    have HF := hid_mk HF
    clear hp
    generalize (s + 63) / 64 = q at *
    go_enter Try.func19, Try.ntmps19
    go_wp2_with (go_at_call 18; refine calls_same (HO.out _) ?_)
    go_loopw [3] (fun i wr => ∃ k : Nat, (k : Int) ≤ q ∧ i = .int .i64 k ∧ wr = w) (fun i _ => 16 - (intOf i).toNat)
    case atStart => exact ⟨0, by omega, by simp, rfl⟩
    case round =>
      obtain ⟨k, hk, rfl, rfl⟩ := hrel
      have hf := HF.out k
      by_cases hx : (k : Int) < q
      · have hkq := hf.2 hx
        go_wp2
        go_roundw
        case rel => exact ⟨k + 1, by omega, by simp, trivial⟩
        case measure => simp [intOf]; omega
      · have hkq : q = k := by omega
        have hx' : s ≤ k * 64 := by have := fun h => hx (hf.1 h); omega
        subst hkq
        go_wp2
        go_ret
        exact ⟨rfl, rfl⟩
  · have hq : (ofV s != 8) = true := by simpa using fun h => hs (ofV_eight.1 h)
    have hp : pagesV s = 0 := by unfold pagesV; rw [if_neg hs]
    have HO := hid_mk (refOf_at s _ rfl)
    rw [hp]
    generalize ofV s = q at *
    clear hp
    go_enter Try.func19, Try.ntmps19
    go_wp2_with (go_at_call 18; refine calls_same (HO.out _) ?_)
    go_ret
    exact ⟨rfl, rfl⟩
theorem refStart_any (c i : Int) (w : World) : Calls Try.prog 22 #[.int .i64 c, .int .i64 i] w fun e w' => e = .returned (.int .i64 (startV c i)) ∧ w' = w := by
  obtain ⟨b2, b1⟩ := blocksV_range c
  have hw := wordsV_range c
  by_cases hi : 0 ≤ i ∧ i < blocksV c
  · obtain ⟨i1, i2⟩ := hi
    have hp1 : 0 ≤ i * wordsV c := Int.mul_nonneg i1 hw.1
    have hp2 : i * wordsV c ≤ 32 * 32 := Int.mul_le_mul (by omega) hw.2 hw.1 (by omega)
    have hs : startV c i = i * wordsV c := by unfold startV; rw [if_pos ⟨i1, i2⟩]
    rw [hs]
    have HB := hid_mk (refBlocks_at c _ rfl)
    have HW := hid_mk (refWords_at c _ rfl)
    clear hs hw
    generalize blocksV c = y at *
    generalize wordsV c = x at *
    have hwr : wrap64 (i * x) = i * x := by unfold wrap64; omega
    clear hp1 hp2
    go_enter Try.func22, Try.ntmps22
    go_wp2_with (first
      | (go_at_call 21; refine calls_same (HB.out _) ?_)
      | (go_at_call 20; refine calls_same (HW.out _) ?_))
    go_ret
    refine ⟨ret_int ?_, rfl⟩
    first | rfl | exact hwr
  · have hs : startV c i = -1 := by unfold startV; rw [if_neg hi]
    rw [hs]
    have HB := hid_mk (refBlocks_at c _ rfl)
    clear hs hw b1 b2
    generalize blocksV c = y at *
    have hi : i < 0 ∨ (0 ≤ i ∧ y ≤ i) := by omega
    rcases hi with h | ⟨h1, h2⟩
    all_goals
      go_enter Try.func22, Try.ntmps22
      go_wp2_with (go_at_call 21; refine calls_same (HB.out _) ?_)
      go_ret
      exact ⟨rfl, rfl⟩
theorem index_hit {c o : Int} {k : Nat} (h0 : 0 < wordsV c) (h : (k : Int) < blocksV c) (e : (k : Int) * wordsV c = o) : indexV c o = k := by
  have hd : o / wordsV c = k := by rw [← e]; exact Int.mul_ediv_cancel _ (by omega)
  have hm : o % wordsV c = 0 := by rw [← e]; exact Int.mul_emod_left _ _
  have hn : 0 ≤ o := by rw [← e]; exact Int.mul_nonneg (by omega) (by omega)
  unfold indexV; rw [hd, if_pos ⟨h0, hn, hm, h⟩]
theorem index_miss {c o : Int} (h : ∀ k : Nat, (k : Int) < blocksV c → (k : Int) * wordsV c ≠ o) : indexV c o = -1 := by
  unfold indexV
  by_cases hc : 0 < wordsV c ∧ 0 ≤ o ∧ o % wordsV c = 0 ∧ o / wordsV c < blocksV c
  · exfalso
    obtain ⟨h1, h2, h3, h4⟩ := hc
    have hq := Int.ediv_nonneg h2 (Int.le_of_lt h1)
    have he := Int.mul_ediv_add_emod o (wordsV c)
    refine h (o / wordsV c).toNat (by omega) ?_
    rw [Int.toNat_of_nonneg hq, Int.mul_comm]; omega
  · rw [if_neg hc]
set_option maxHeartbeats 800000 in
theorem refIndex_any (c o : Int) (w : World) : Calls Try.prog 23 #[.int .i64 c, .int .i64 o] w fun e w' => e = .returned (.int .i64 (indexV c o)) ∧ w' = w := by
  have HH := hid_mk (fun k => index_hit (c := c) (o := o) (k := k))
  have HM := hid_mk (index_miss (c := c) (o := o))
  have HB := hid_mk (refBlocks_at c _ rfl)
  have HW := hid_mk (refWords_at c _ rfl)
  have HN := hid_mk (words_none (c := c))
  obtain ⟨x1, x2⟩ := wordsV_range c
  obtain ⟨y1, y2⟩ := blocksV_range c
  generalize indexV c o = r at *
  generalize blocksV c = y at *
  generalize wordsV c = x at *
  go_enter Try.func23, Try.ntmps23
  go_wp2
  go_loopw [5] (fun i wr => ∃ k : Nat, (k : Int) ≤ y ∧ i = .int .i64 k ∧ Hid (∀ j : Nat, j < k → (j : Int) * x ≠ o) ∧ wr = w) (fun i _ => 32 - (intOf i).toNat)
  case atStart => exact ⟨0, by omega, by simp, hid_mk (fun j hj => absurd hj (Nat.not_lt_zero _)), rfl⟩
  case round =>
    obtain ⟨k, hk, rfl, HJ, rfl⟩ := hrel
    by_cases hky : (k : Int) < y
    · have hx0 : 0 < x := by
        by_cases hx : x = 0
        · have := HN.out hx; omega
        · omega
      have hp1 : 0 ≤ (k : Int) * x := Int.mul_nonneg (by omega) x1
      have hp2 : (k : Int) * x ≤ 32 * 32 := Int.mul_le_mul (by omega) x2 x1 (by omega)
      have hwr : wrap64 ((k : Int) * x) = (k : Int) * x := by unfold wrap64; omega
      by_cases he : (k : Int) * x = o
      · have hr := HH.out k hx0 hky he
        subst hr
        have he' : ((k : Int) * x == o) = true := by simpa using he
        go_wp2_with (first
          | (go_at_call 21; refine calls_same (HB.out _) ?_)
          | (go_at_call 20; refine calls_same (HW.out _) ?_))
        go_ret
        exact ⟨rfl, rfl⟩
      · have he' : ((k : Int) * x == o) = false := by simpa using he
        have HJ' : Hid (∀ j : Nat, j < k + 1 → (j : Int) * x ≠ o) := hid_mk (fun j hj => by
          by_cases e : j = k
          · subst e; exact he
          · exact HJ.out j (by omega))
        clear HJ
        go_wp2_with (first
          | (go_at_call 21; refine calls_same (HB.out _) ?_)
          | (go_at_call 20; refine calls_same (HW.out _) ?_))
        go_roundw
        case rel => exact ⟨k + 1, by omega, by simp, HJ', trivial⟩
        case measure => simp [intOf]; omega
    · have hr := HM.out (fun j hj => HJ.out j (by omega))
      have : y = k := by omega
      subst this hr
      go_wp2_with (go_at_call 21; refine calls_same (HB.out _) ?_)
      go_ret
      exact ⟨rfl, rfl⟩
end Go.Proofs.Ytgfibbpomeaokaa
