/- the document's own Size -/
import Derived.Test.YtoajgbgmiionpaaDoorYf
namespace Go.Proofs.YtoajgbgmiionpaaDoor
open Go.RowKit
set_option linter.unusedVariables false
set_option linter.unusedSimpArgs false

/-- the slice, opened -/
theorem own_open {w : World} {v : Value} {base : Nat} {l : List Nat} (h : ListIs w base v l) :
    ∃ a cap, v = .slice a l.length cap ∧ (0 < l.length → ∃ g, a = some ⟨g, 0, none⟩ ∧ base ≤ g ∧ g < w.heap.size ∧ ∀ i (hi : i < l.length), w.cell? ⟨g, i, none⟩ = some (.int .i64 (l[i] : Nat))) := by
  obtain ⟨hlen, hcase⟩ := h
  rcases hcase with ⟨hv, h0⟩ | ⟨g, cap', cur, rfl, hg1, hg2, hg3, hg4, hg5, hg6⟩
  · exact ⟨none, 0, by rw [hv, h0], fun h => by omega⟩
  · refine ⟨_, _, rfl, fun _ => ⟨g, rfl, hg1, heap_lt hg2, fun i hi => ?_⟩⟩
    have e : (cur.toList.take (l.length * 1))[i]? = (ints l)[i]? := by rw [hg6]
    simp [ints, hi] at e
    simp [World.cell?, hg2, e]
theorem row_facts {j : Nat} (h1 : 1 ≤ j) (h2 : j ≤ 13) : wd j = 1 + (firstL j).length ∧ (firstL j).length ≤ 4 ∧ 0 ≤ restV j ∧ 0 ≤ leastV j ∧ (restV j = 0 → mo j = 0 ∧ leastV j = 0) ∧ (0 < restV j → perV j = if j = 4 then 8 else 1) ∧ (j ≠ 12 → leastV j = 0) ∧ (j = 12 → leastV j = 4 ∧ mo j = 512 ∧ restV j = 9) ∧ (j = 4 → restV j = 1) ∧ mo j ≤ 4096 := by
  rcases kinds h1 h2 with rfl | rfl | rfl | rfl | rfl | rfl | rfl | rfl | rfl | rfl | rfl | rfl | rfl <;> decide
theorem row_sim {j : Nat} (h1 : 1 ≤ j) (h2 : j ≤ 13) (w : World) : Calls Tryd.prog 32 #[.int .i64 j] w fun e w' => ∃ ao cap, e = .returned (.agg #[.slice ao (firstL j).length cap, .int .i64 (restV j), .int .i64 (leastV j), .int .i64 (mo j), .int .i64 (perV j)]) ∧ Out 0 0 w w' := by
  refine (row_any h1 h2 w).mono ?_
  rintro e w1 ⟨f, rfl, hl, ho⟩
  obtain ⟨ao, cap, rfl, _⟩ := own_open hl
  exact ⟨ao, cap, rfl, ho⟩
theorem spine_ge {n : Int} (h : spineB n = true) : 4 ≤ n ∧ n ≤ 512 := pow2_le (spine_iff.1 h)
theorem refSizeB {j : Nat} {n : Int} (h1 : 1 ≤ j) (h2 : j ≤ 13) : sizeB j n = true ↔ leastV j ≤ n ∧ n ≤ mo j ∧ (j ≠ 12 ∨ spineB n = true) := by
  obtain ⟨r1, r2, r3, r4, r5, r6, r7, r8, r9, r10⟩ := row_facts h1 h2
  rw [sizeB_iff, known_iff]
  constructor
  · rintro ⟨_, a, b, c⟩
    refine ⟨?_, b, ?_⟩
    · by_cases e : j = 12
      · rw [(r8 e).1]
        rcases c with c | c
        · omega
        · exact (spine_ge c).1
      · rw [r7 e]; exact a
    · rcases c with c | c
      · left; omega
      · exact .inr c
  · rintro ⟨a, b, c⟩
    refine ⟨by omega, by omega, b, ?_⟩
    rcases c with c | c
    · left; omega
    · exact .inr c
set_option maxHeartbeats 2000000 in
theorem refSize_any (k n : Int) (w : World) : Calls Tryd.prog 23 #[.int .i64 k, .int .i64 n] w fun e w' => e = .returned (.tuple #[.int .i64 (sizeV k n), .bool (sizeB k n)]) ∧ Out 0 0 w w' := by
  by_cases hk : 1 ≤ k ∧ k ≤ 13
  · obtain ⟨j, rfl⟩ : ∃ j : Nat, k = j := ⟨k.toNat, by omega⟩
    have j1 : 1 ≤ j := by omega
    have j2 : j ≤ 13 := by omega
    have H := hid_mk (row_sim j1 j2)
    have B := refSizeB (n := n) j1 j2
    have HH := hid_mk (heads_any n)
    have RF := row_facts j1 j2
    have k1 : (1 : Int) ≤ (j : Int) := by omega
    have k2 : (j : Int) ≤ 13 := by omega
    obtain ⟨r1, r2, r3, r4, r5, r6, r7, r8, r9, r10⟩ := RF
    by_cases ha : n < leastV j
    · have hb : sizeB j n = false := by rw [← Bool.not_eq_true, B]; omega
      rw [size_bad hb, hb]
      clear hk j1 j2 B hb r1 r2 r3 r5 r6 r7 r8 r9 r10
      generalize (firstL j).length = L at *
      generalize restV j = x at *
      generalize leastV j = y at *
      generalize mo j = z at *
      generalize perV j = u at *
      go_enter Tryd.func23, Tryd.ntmps23
      go_wp2_with (first | (go_at_call 33; refine calls_same (HH.out _) ?_) | (go_at_call 32; refine (H.out _).mono ?_; rintro e w1 ⟨ao, cap, rfl, ho⟩; have HO := hid_mk ho; clear ho))
      go_ret2
      exact ⟨rfl, HO.out.alloc _⟩
    by_cases hm : mo j < n
    · have hb : sizeB j n = false := by rw [← Bool.not_eq_true, B]; omega
      have ha' : leastV j ≤ n := by omega
      rw [size_bad hb, hb]
      clear hk j1 j2 B hb r1 r2 r3 r5 r6 r7 r8 r9 ha r10
      generalize (firstL j).length = L at *
      generalize restV j = x at *
      generalize leastV j = y at *
      generalize mo j = z at *
      generalize perV j = u at *
      go_enter Tryd.func23, Tryd.ntmps23
      go_wp2_with (first | (go_at_call 33; refine calls_same (HH.out _) ?_) | (go_at_call 32; refine (H.out _).mono ?_; rintro e w1 ⟨ao, cap, rfl, ho⟩; have HO := hid_mk ho; clear ho))
      go_ret2
      exact ⟨rfl, HO.out.alloc _⟩
    have ha' : leastV j ≤ n := by omega
    have hm' : n ≤ mo j := by omega
    by_cases h12 : j = 12
    · subst h12
      rw [show ((12 : Nat) : Int) = 12 from rfl] at *
      obtain ⟨q1, q2, q3⟩ := r8 rfl
      have hu := r6 (by rw [q3]; decide)
      rw [if_neg (by decide)] at hu
      cases hs : spineB n
      · have hb : sizeB 12 n = false := by rw [← Bool.not_eq_true, B, hs]; simp
        rw [hs] at HH
        rw [size_bad hb, hb]
        clear hk j1 j2 B hb r1 r2 r3 r5 r6 r7 r8 r9 ha hm r4 q1 q2 q3 hu hs r10
        generalize (firstL 12).length = L at *
        generalize restV 12 = x at *
        generalize leastV 12 = y at *
        generalize mo 12 = z at *
        generalize perV 12 = u at *
        go_enter Tryd.func23, Tryd.ntmps23
        go_wp2_with (first | (go_at_call 33; refine calls_same (HH.out _) ?_) | (go_at_call 32; refine (H.out _).mono ?_; rintro e w1 ⟨ao, cap, rfl, ho⟩; have HO := hid_mk ho; clear ho))
        go_ret2
        exact ⟨rfl, HO.out.alloc _⟩
      · have hb : sizeB 12 n = true := by rw [B]; exact ⟨ha', hm', .inr hs⟩
        rw [hs] at HH
        have HE := hid_mk (r1)
        rw [size_good hb, hb, r1, part_not4 (by decide)]
        have n1 : n ≤ 4096 := by omega
        have n0 : 0 ≤ n := by omega
        have h12' : ((12 : Int) == 12) = true := rfl
        have hx : 0 < restV 12 := by rw [q3]; decide
        clear hk j1 j2 B hb r1 r3 r5 r6 r7 r8 r9 ha hm r4 q1 q2 q3 hs r10 HE
        rw [hu] at H
        generalize (firstL 12).length = L at *
        generalize restV 12 = x at *
        generalize leastV 12 = y at *
        generalize mo 12 = z at *
        go_enter Tryd.func23, Tryd.ntmps23
        go_wp2_with (first | (go_at_call 33; refine calls_same (HH.out _) ?_) | (go_at_call 32; refine (H.out _).mono ?_; rintro e w1 ⟨ao, cap, rfl, ho⟩; have HO := hid_mk ho; clear ho))
        go_loopw [7, 8] (fun a b wr => ∃ c : Int, 0 ≤ c ∧ a = .int .i64 (1 + L + c) ∧ b = .int .i64 (c * 1) ∧ c * 1 < n + 1 ∧ wr = w1.alloc (.cells #[.slice ao L cap, .int .i64 x, .int .i64 y, .int .i64 z, .int .i64 1] 47)) (fun _ b _ => (n - intOf b).toNat)
        case atStart => exact ⟨0, by decide, by simp, rfl, by omega, rfl⟩
        case round =>
          obtain ⟨c, c0, rfl, rfl, c1, rfl⟩ := hrel
          by_cases hc : c * 1 < n
          · go_wp2
            go_roundw
            case rel => exact ⟨c + 1, by omega, by congr 1; omega, by congr 1; omega, by omega, trivial⟩
            case measure => simp [intOf]; omega
          · have hc' : n ≤ c * 1 := by omega
            go_wp2
            go_ret2
            exact ⟨ret_ib (by omega) rfl, HO.out.alloc _⟩
    have h12' : ((j : Int) == 12) = false := by simp; omega
    have hb : sizeB j n = true := by rw [B]; exact ⟨ha', hm', .inl h12⟩
    have n0 : 0 ≤ n := by omega
    have n1 : n ≤ 4096 := by omega
    rw [size_good hb, hb, r1]
    by_cases hx : restV j = 0
    · have hn : n = 0 := by have := r5 hx; omega
      rw [show partW j n = 0 from by unfold partW; rw [hn]; split <;> decide]
      clear hk j1 j2 B hb r1 r3 r5 r6 r7 r8 r9 ha hm r4 r10 h12 hn n0 n1
      generalize (firstL j).length = L at *
      generalize restV j = x at *
      generalize leastV j = y at *
      generalize mo j = z at *
      generalize perV j = u at *
      go_enter Tryd.func23, Tryd.ntmps23
      go_wp2_with (first | (go_at_call 33; refine calls_same (HH.out _) ?_) | (go_at_call 32; refine (H.out _).mono ?_; rintro e w1 ⟨ao, cap, rfl, ho⟩; have HO := hid_mk ho; clear ho))
      go_ret2
      exact ⟨ret_ib (by omega) rfl, HO.out.alloc _⟩
    have hx' : 0 < restV j := by omega
    have hu := r6 hx'
    by_cases h4 : j = 4
    · subst h4
      rw [if_pos rfl] at hu
      rw [show partW ((4 : Nat) : Int) n = (n + 7) / 8 from rfl]
      rw [show ((4 : Nat) : Int) = 4 from rfl] at *
      clear hk j1 j2 B hb r1 r3 r5 r6 r7 r8 r9 ha hm r4 r10 h12 hx
      rw [hu] at H
      generalize (firstL 4).length = L at *
      generalize restV 4 = x at *
      generalize leastV 4 = y at *
      generalize mo 4 = z at *
      go_enter Tryd.func23, Tryd.ntmps23
      go_wp2_with (first | (go_at_call 33; refine calls_same (HH.out _) ?_) | (go_at_call 32; refine (H.out _).mono ?_; rintro e w1 ⟨ao, cap, rfl, ho⟩; have HO := hid_mk ho; clear ho))
      go_loopw [7, 8] (fun a b wr => ∃ c : Int, 0 ≤ c ∧ a = .int .i64 (1 + L + c) ∧ b = .int .i64 (c * 8) ∧ c * 8 < n + 8 ∧ wr = w1.alloc (.cells #[.slice ao L cap, .int .i64 x, .int .i64 y, .int .i64 z, .int .i64 8] 47)) (fun _ b _ => (n - intOf b).toNat)
      case atStart => exact ⟨0, by decide, by simp, rfl, by omega, rfl⟩
      case round =>
        obtain ⟨c, c0, rfl, rfl, c1, rfl⟩ := hrel
        by_cases hc : c * 8 < n
        · go_wp2
          go_roundw
          case rel => exact ⟨c + 1, by omega, by congr 1; omega, by congr 1; omega, by omega, trivial⟩
          case measure => simp [intOf]; omega
        · have hc' : n ≤ c * 8 := by omega
          go_wp2
          go_ret2
          exact ⟨ret_ib (by omega) rfl, HO.out.alloc _⟩
    · rw [if_neg h4] at hu
      rw [part_not4 (by omega)]
      clear hk j1 j2 B hb r1 r3 r5 r6 r7 r8 r9 ha hm r4 r10 h12 hx h4
      rw [hu] at H
      generalize (firstL j).length = L at *
      generalize restV j = x at *
      generalize leastV j = y at *
      generalize mo j = z at *
      go_enter Tryd.func23, Tryd.ntmps23
      go_wp2_with (first | (go_at_call 33; refine calls_same (HH.out _) ?_) | (go_at_call 32; refine (H.out _).mono ?_; rintro e w1 ⟨ao, cap, rfl, ho⟩; have HO := hid_mk ho; clear ho))
      go_loopw [7, 8] (fun a b wr => ∃ c : Int, 0 ≤ c ∧ a = .int .i64 (1 + L + c) ∧ b = .int .i64 (c * 1) ∧ c * 1 < n + 1 ∧ wr = w1.alloc (.cells #[.slice ao L cap, .int .i64 x, .int .i64 y, .int .i64 z, .int .i64 1] 47)) (fun _ b _ => (n - intOf b).toNat)
      case atStart => exact ⟨0, by decide, by simp, rfl, by omega, rfl⟩
      case round =>
        obtain ⟨c, c0, rfl, rfl, c1, rfl⟩ := hrel
        by_cases hc : c * 1 < n
        · go_wp2
          go_roundw
          case rel => exact ⟨c + 1, by omega, by congr 1; omega, by congr 1; omega, by omega, trivial⟩
          case measure => simp [intOf]; omega
        · have hc' : n ≤ c * 1 := by omega
          go_wp2
          go_ret2
          exact ⟨ret_ib (by omega) rfl, HO.out.alloc _⟩
  · have hb : sizeB k n = false := by rw [← Bool.not_eq_true, sizeB_iff, known_iff]; exact fun h => hk h.1
    rw [size_bad hb, hb]
    clear hb
    have hk' : k < 1 ∨ 13 < k := by omega
    clear hk
    rcases hk' with hk | hk
    all_goals
      go_enter Tryd.func23, Tryd.ntmps23
      go_wp2
      go_ret2
      exact ⟨rfl, Out.refl _ _ _⟩
end Go.Proofs.YtoajgbgmiionpaaDoor
