/- class: Index, Of, Pages -/
import Derived.Test.YtgfibbpomeaokaaCb
namespace Go.Proofs.Ytgfibbpomeaokaa
open Go.ChangeShapes Go.WideShapes Go.ChangeAt Go.RowKit
set_option linter.unusedVariables false
set_option linter.unusedSimpArgs false

theorem index_any (c o : Int) (w : World) (o1 : -9223372036854775808 ≤ o) (o2 : o ≤ 9223372036854775807) : Calls Try.prog 17 #[.int .i64 c, .int .i64 o] w fun e w' => e = .returned (.int .i64 (indexV c o)) ∧ Below w.heap.size w w' := by
  have h0 := Below.refl w.heap.size w
  have hw : 0 ≤ wordsV c ∧ wordsV c ≤ 32 := by rcases class_told c with ⟨x, y, hx, hy, c0, c7, h⟩ | ⟨hx, hy, hc⟩ <;> omega
  obtain ⟨w1, w2⟩ := hw
  have HB := hid_mk (blocks_at c _ rfl)
  have HW := hid_mk (words_at c _ rfl)
  unfold indexV
  generalize blocksV c = y at *
  generalize wordsV c = x at *
  by_cases hx : x = 0
  · rw [if_neg (by omega)]
    subst hx
    clear w1 w2
    go_enter Try.func17, Try.ntmps17
    go_wp2_with (first
      | (go_at_call 13; refine (calls_rel (HB.out _) (by assumption)).mono ?_; rintro e w1 ⟨rfl, hg⟩)
      | (go_at_call 12; refine (calls_rel (HW.out _) (by assumption)).mono ?_; rintro e w1 ⟨rfl, hg⟩))
    go_ret
    exact ⟨rfl, by assumption⟩
  have ex : (x == 0) = false := by simpa using hx
  by_cases ho : o < 0
  · rw [if_neg (by omega)]
    go_enter Try.func17, Try.ntmps17
    go_wp2_with (first
      | (go_at_call 13; refine (calls_rel (HB.out _) (by assumption)).mono ?_; rintro e w1 ⟨rfl, hg⟩)
      | (go_at_call 12; refine (calls_rel (HW.out _) (by assumption)).mono ?_; rintro e w1 ⟨rfl, hg⟩))
    go_ret
    exact ⟨rfl, by assumption⟩
  have ho' : 0 ≤ o := by omega
  have e1 : o.tmod x = o % x := Int.tmod_eq_emod_of_nonneg ho'
  have e2 : o.tdiv x = o / x := Int.tdiv_eq_ediv_of_nonneg ho'
  have hq : 0 ≤ o / x := Int.ediv_nonneg ho' w1
  have hq2 : o / x ≤ o := Int.ediv_le_self x ho'
  have hq3 : wrap64 (o / x) = o / x := by unfold wrap64; omega
  have w3 : 0 < x := by omega
  by_cases hm : o % x = 0
  · have em : (o % x != 0) = false := by simpa using hm
    by_cases hy : o / x < y
    · rw [if_pos ⟨w3, ho', hm, hy⟩]
      generalize o % x = m at *
      generalize o / x = q at *
      clear hq2
      go_enter Try.func17, Try.ntmps17
      go_wp2_with (first
        | (go_at_call 13; refine (calls_rel (HB.out _) (by assumption)).mono ?_; rintro e w1 ⟨rfl, hg⟩)
        | (go_at_call 12; refine (calls_rel (HW.out _) (by assumption)).mono ?_; rintro e w1 ⟨rfl, hg⟩))
      go_ret
      exact ⟨rfl, by assumption⟩
    · rw [if_neg (by omega)]
      have hy' : y ≤ o / x := by omega
      generalize o % x = m at *
      generalize o / x = q at *
      go_enter Try.func17, Try.ntmps17
      go_wp2_with (first
        | (go_at_call 13; refine (calls_rel (HB.out _) (by assumption)).mono ?_; rintro e w1 ⟨rfl, hg⟩)
        | (go_at_call 12; refine (calls_rel (HW.out _) (by assumption)).mono ?_; rintro e w1 ⟨rfl, hg⟩))
      go_ret
      exact ⟨rfl, by assumption⟩
  · rw [if_neg (by omega)]
    have em : (o % x != 0) = true := by simpa using hm
    go_enter Try.func17, Try.ntmps17
    go_wp2_with (first
      | (go_at_call 13; refine (calls_rel (HB.out _) (by assumption)).mono ?_; rintro e w1 ⟨rfl, hg⟩)
      | (go_at_call 12; refine (calls_rel (HW.out _) (by assumption)).mono ?_; rintro e w1 ⟨rfl, hg⟩))
    go_ret
    exact ⟨rfl, by assumption⟩

/-- the first class that holds it -/
theorem of_first {s : Int} (h1 : 1 ≤ s) (h2 : s ≤ 1024) (k : Nat) (hk : k < 8) : (wordsV k < s) ↔ (k : Int) < ofV s := by
  have hi : k = 0 ∨ k = 1 ∨ k = 2 ∨ k = 3 ∨ k = 4 ∨ k = 5 ∨ k = 6 ∨ k = 7 := by omega
  rcases hi with rfl | rfl | rfl | rfl | rfl | rfl | rfl | rfl <;> simp [wordsV, ofV] <;> omega
theorem ofV_in {s : Int} (h1 : 1 ≤ s) (h2 : s ≤ 1024) : 0 ≤ ofV s ∧ ofV s ≤ 8 := by unfold ofV; omega
theorem ofV_out {s : Int} (h : s < 1 ∨ 1024 < s) : ofV s = -1 := by unfold ofV; omega
set_option maxHeartbeats 800000 in
theorem of_any (s : Int) (w : World) : Calls Try.prog 14 #[.int .i64 s] w fun e w' => e = .returned (.int .i64 (ofV s)) ∧ Below w.heap.size w w' := by
  have h0 := Below.refl w.heap.size w
  by_cases hs : 1 ≤ s ∧ s ≤ 1024
  · obtain ⟨s1, s2⟩ := hs
    have HF := hid_mk (of_first s1 s2)
    obtain ⟨q1, q2⟩ := ofV_in s1 s2
    generalize ofV s = q at *
    go_enter Try.func14, Try.ntmps14
    go_wp2_with (go_at_call 24; refine (calls_rel (sizes_any _) (by assumption)).mono ?_; rintro e w1 ⟨rfl, hg⟩)
    go_loopw [12] (fun i wr => ∃ k : Nat, (k : Int) ≤ q ∧ i = .int .i64 k ∧ Below w.heap.size w wr) (fun i _ => 8 - (intOf i).toNat)
    case atStart => exact ⟨0, by omega, by simp, hg⟩
    case round =>
      clear hg h0
      obtain ⟨k, hk, rfl, hB⟩ := hrel
      by_cases hk8 : k < 8
      · have hi := index8n k hk8
        have hf := HF.out k hk8
        have hk8' : (k : Int) < 8 := by omega
        generalize wordsV k = x at hi hf
        by_cases hx : x < s
        · have hx' : ¬ s ≤ x := by omega
          have hkq := hf.1 hx
          go_wp2
          go_roundw
          case rel => exact ⟨k + 1, by omega, by simp, hB⟩
          case measure => simp [intOf]; omega
        · have hx' : s ≤ x := by omega
          have hkq : q = k := by have := fun h => hx (hf.2 h); omega
          subst hkq
          go_wp2
          go_ret
          exact ⟨rfl, hB⟩
      · have hkq : k = 8 := by omega
        have : q = 8 := by omega
        subst hkq this
        go_wp2
        go_ret
        exact ⟨rfl, hB⟩
  · have hs : s < 1 ∨ 1024 < s := by omega
    rw [ofV_out hs]
    rcases hs with h | h
    all_goals
      go_enter Try.func14, Try.ntmps14
      go_wp2
      go_ret
      exact ⟨rfl, h0⟩
theorem of_at (s v : Int) (h : ofV s = v) (w : World) : Calls Try.prog 14 #[.int .i64 s] w fun e w' => e = .returned (.int .i64 v) ∧ Below w.heap.size w w' := by
  rw [← h]; exact of_any s w
theorem ofV_eight {s : Int} : ofV s = 8 ↔ 32 < s ∧ s ≤ 1024 := by unfold ofV; omega
theorem pages_any (s : Int) (w : World) : Calls Try.prog 15 #[.int .i64 s] w fun e w' => e = .returned (.int .i64 (pagesV s)) ∧ Below w.heap.size w w' := by
  have h0 := Below.refl w.heap.size w
  by_cases hs : 32 < s ∧ s ≤ 1024
  · have HO := hid_mk (of_at s 8 (ofV_eight.2 hs))
    have hp : pagesV s = (s + 63) / 64 := by unfold pagesV; rw [if_pos hs]
    rw [hp]
    obtain ⟨s1, s2⟩ := hs
    clear hp
    go_enter Try.func15, Try.ntmps15
    go_wp2_with (go_at_call 14; refine (calls_rel (HO.out _) (by assumption)).mono ?_; rintro e w1 ⟨rfl, hg⟩)
    go_ret
    exact ⟨ret_int (by omega), by assumption⟩
  · have hq : (ofV s != 8) = true := by simpa using fun h => hs (ofV_eight.1 h)
    have hp : pagesV s = 0 := by unfold pagesV; rw [if_neg hs]
    have HO := hid_mk (of_at s _ rfl)
    rw [hp]
    generalize ofV s = q at *
    clear hp
    go_enter Try.func15, Try.ntmps15
    go_wp2_with (go_at_call 14; refine (calls_rel (HO.out _) (by assumption)).mono ?_; rintro e w1 ⟨rfl, hg⟩)
    go_ret
    exact ⟨rfl, by assumption⟩
end Go.Proofs.Ytgfibbpomeaokaa
