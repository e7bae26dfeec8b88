/- unlike headers -/
import Derived.Test.YtpglpljeomfblaaHc
import Derived.Deep.RegionWith
namespace Go.Proofs.Ytpglpljeomfblaa
open Go.ChangeShapes Go.WideShapes Go.ChangeAt Go.RowKit
set_option linter.unusedVariables false
set_option linter.unusedSimpArgs false

theorem unlike_eq {a k n a2 k2 n2 : Int} (h : Good a k n) (h2 : Good a2 k2 n2) : makeV a k n = makeV a2 k2 n2 ↔ (a = a2 ∧ k = k2 ∧ n = n2) := by
  constructor
  · exact make_inj h h2
  · rintro ⟨rfl, rfl, rfl⟩; rfl
theorem next_size {a k n : Int} (h : Good a k n) : Good a k (n % 1024 + 1) ∧ makeV a k n ≠ makeV a k (n % 1024 + 1) := by
  have g : Good a k (n % 1024 + 1) := by unfold Good at *; omega
  refine ⟨g, fun e => ?_⟩
  have := (make_inj h g e).2.2
  unfold Good at h; omega
set_option maxHeartbeats 800000 in
theorem unlike_same (a k n : Int) (w : World) (h : Good a k n) : Calls Try.prog 7 #[.int .i64 a, .int .i64 k, .int .i64 n, .int .i64 a, .int .i64 k, .int .i64 n] w fun e w' => e = .returned (.bool true) ∧ w' = w := by
  have G := hid_mk (lawGood_any a k n)
  rw [good_true h] at G
  obtain ⟨g3, hne⟩ := next_size h
  have M := hid_mk (make_any a k n)
  have M3 := hid_mk (make_any a k (n % 1024 + 1))
  generalize makeV a k (n % 1024 + 1) = m3 at *
  generalize makeV a k n = m at *
  have hne' : (m != m3) = true := by simpa using hne
  have n0 : 0 ≤ n := by unfold Good at h; omega
  have hz : n % 1024 < 1024 := by omega
  have hz0 : 0 ≤ n % 1024 := by omega
  clear h g3 hne
  go_enter Try.func7, Try.ntmps7
  go_wp2_with (first
    | (go_at_call 9; refine calls_same (alive_any _) ?_)
    | (go_at_call 15; refine calls_same (G.out _) ?_)
    | (go_at_call_of 10 (Value.int IntKind.i64 n); refine calls_same (M.out _) ?_)
    | (go_at_call 10; refine calls_same (M3.out _) ?_))
  go_ret
  exact ⟨ret_bool (by first | rfl | assumption), rfl⟩
set_option maxHeartbeats 800000 in
theorem unlike_any (a k n a2 k2 n2 : Int) (w : World) : Calls Try.prog 7 #[.int .i64 a, .int .i64 k, .int .i64 n, .int .i64 a2, .int .i64 k2, .int .i64 n2] w fun e w' => e = .returned (.bool true) ∧ w' = w := by
  have G := hid_mk (lawGood_any a k n)
  by_cases h : Good a k n
  · rw [good_true h] at G
    by_cases hs : a = a2 ∧ k = k2 ∧ n = n2
    · obtain ⟨rfl, rfl, rfl⟩ := hs
      exact unlike_same a k n w h
    have G2 := hid_mk (lawGood_any a2 k2 n2)
    by_cases h2 : Good a2 k2 n2
    · rw [good_true h2] at G2
      obtain ⟨g3, hne⟩ := next_size h
      have hu : ¬(makeV a k n = makeV a2 k2 n2) := fun q => hs ((unlike_eq h h2).1 q)
      have M := hid_mk (make_any a k n)
      have M2 := hid_mk (make_any a2 k2 n2)
      have M3 := hid_mk (make_any a k (n % 1024 + 1))
      generalize makeV a k (n % 1024 + 1) = m3 at *
      generalize makeV a k n = m at *
      generalize makeV a2 k2 n2 = m2 at *
      have hne' : (m != m3) = true := by simpa using hne
      have hu' : (m == m2) = false := by simpa using hu
      have n0 : 0 ≤ n := by unfold Good at h; omega
      have hz : n % 1024 < 1024 := by omega
      have hz0 : 0 ≤ n % 1024 := by omega
      clear h h2 g3 hne hu
      by_cases q1 : a = a2
      · subst q1
        by_cases q2 : k = k2
        · subst q2
          have q3 : (n == n2) = false := by simpa using fun q => hs ⟨rfl, rfl, q⟩
          clear hs
          go_enter Try.func7, Try.ntmps7
          go_wp2_with (first
            | (go_at_call 9; refine calls_same (alive_any _) ?_)
            | (go_at_call_of 15 (Value.int IntKind.i64 n2); refine calls_same (G2.out _) ?_)
            | (go_at_call_of 15 (Value.int IntKind.i64 n); refine calls_same (G.out _) ?_)
            | (go_at_call_of 10 (Value.int IntKind.i64 n2); refine calls_same (M2.out _) ?_)
            | (go_at_call_of 10 (Value.int IntKind.i64 n); refine calls_same (M.out _) ?_)
            | (go_at_call 10; refine calls_same (M3.out _) ?_))
          go_ret
          exact ⟨ret_bool (by first | rfl | assumption), rfl⟩
        · have q2' : (k == k2) = false := by simpa using q2
          clear hs q2
          go_enter Try.func7, Try.ntmps7
          go_wp2_with (first
            | (go_at_call 9; refine calls_same (alive_any _) ?_)
            | (go_at_call_of 15 (Value.int IntKind.i64 k2); refine calls_same (G2.out _) ?_)
            | (go_at_call_of 15 (Value.int IntKind.i64 k); refine calls_same (G.out _) ?_)
            | (go_at_call_of 10 (Value.int IntKind.i64 k2); refine calls_same (M2.out _) ?_)
            | (go_at_call_of 10 (Value.int IntKind.i64 n); refine calls_same (M.out _) ?_)
            | (go_at_call 10; refine calls_same (M3.out _) ?_))
          go_ret
          exact ⟨ret_bool (by first | rfl | assumption), rfl⟩
      · have q1' : (a == a2) = false := by simpa using q1
        clear hs q1
        go_enter Try.func7, Try.ntmps7
        go_wp2_with (first
          | (go_at_call 9; refine calls_same (alive_any _) ?_)
          | (go_at_call_of 15 (Value.int IntKind.i64 a2); refine calls_same (G2.out _) ?_)
          | (go_at_call_of 15 (Value.int IntKind.i64 a); refine calls_same (G.out _) ?_)
          | (go_at_call_of 10 (Value.int IntKind.i64 a2); refine calls_same (M2.out _) ?_)
          | (go_at_call_of 10 (Value.int IntKind.i64 n); refine calls_same (M.out _) ?_)
          | (go_at_call 10; refine calls_same (M3.out _) ?_))
        go_ret
        exact ⟨ret_bool (by first | rfl | assumption), rfl⟩
    · rw [good_false h2] at G2
      clear h h2
      by_cases q1 : a = a2
      · subst q1
        by_cases q2 : k = k2
        · subst q2
          clear hs
          go_enter Try.func7, Try.ntmps7
          go_wp2_with (first
            | (go_at_call 9; refine calls_same (alive_any _) ?_)
            | (go_at_call_of 15 (Value.int IntKind.i64 n2); refine calls_same (G2.out _) ?_)
            | (go_at_call_of 15 (Value.int IntKind.i64 n); refine calls_same (G.out _) ?_))
          go_ret
          exact ⟨ret_bool (by first | rfl | assumption), rfl⟩
        · clear hs q2
          go_enter Try.func7, Try.ntmps7
          go_wp2_with (first
            | (go_at_call 9; refine calls_same (alive_any _) ?_)
            | (go_at_call_of 15 (Value.int IntKind.i64 k2); refine calls_same (G2.out _) ?_)
            | (go_at_call_of 15 (Value.int IntKind.i64 k); refine calls_same (G.out _) ?_))
          go_ret
          exact ⟨ret_bool (by first | rfl | assumption), rfl⟩
      · clear hs q1
        go_enter Try.func7, Try.ntmps7
        go_wp2_with (first
          | (go_at_call 9; refine calls_same (alive_any _) ?_)
          | (go_at_call_of 15 (Value.int IntKind.i64 a2); refine calls_same (G2.out _) ?_)
          | (go_at_call_of 15 (Value.int IntKind.i64 a); refine calls_same (G.out _) ?_))
        go_ret
        exact ⟨ret_bool (by first | rfl | assumption), rfl⟩
  · rw [good_false h] at G
    clear h
    go_enter Try.func7, Try.ntmps7
    go_wp2_with (first
      | (go_at_call 9; refine calls_same (alive_any _) ?_)
      | (go_at_call 15; refine calls_same (G.out _) ?_))
    go_ret
    exact ⟨ret_bool (by first | rfl | assumption), rfl⟩
end Go.Proofs.Ytpglpljeomfblaa
