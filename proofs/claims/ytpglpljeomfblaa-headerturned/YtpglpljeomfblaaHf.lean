/- a turned bit -/
import Derived.Test.YtpglpljeomfblaaHc
import Derived.Deep.RegionWith
namespace Go.Proofs.Ytpglpljeomfblaa
open Go.ChangeShapes Go.WideShapes Go.ChangeAt Go.RowKit
set_option linter.unusedVariables false
set_option linter.unusedSimpArgs false

theorem turned_bit {a k n : Int} (h : Good a k n) (s : Nat) (hs : s < 64) : readB a (bits .xor .i64 (makeV a k n) (wrap64 (2 ^ s))) = false := by
  obtain ⟨r1, r2⟩ := make_range a k n
  obtain ⟨b1, b2⟩ := xor_bit (makeV a k n) s r1 r2 hs
  exact turned h b1 b2
theorem turned_read {a k n : Int} (h : Good a k n) (s : Nat) (hs : s < 64) (w : World) : Calls Try.prog 14 #[.int .i64 a, .int .i64 (bits .xor .i64 (makeV a k n) (wrap64 (2 ^ s)))] w fun e w' => e = .returned (.tuple #[.int .i64 0, .int .i64 0, .bool false]) ∧ w' = w := by
  have e := turned_bit h s hs
  obtain ⟨e1, e2⟩ := readK_false e
  have := read_any a (bits .xor .i64 (makeV a k n) (wrap64 (2 ^ s))) w
  rw [e, e1, e2] at this
  exact this
set_option maxHeartbeats 800000 in
theorem turned_any (a k n b : Int) (w : World) : Calls Try.prog 8 #[.int .i64 a, .int .i64 k, .int .i64 n, .int .i64 b] w fun e w' => e = .returned (.bool true) ∧ w' = w := by
  have M := hid_mk (make_any a k n)
  by_cases h : Good a k n
  · have T := hid_mk (turned_read h)
    have hz : (makeV a k n == 0) = false := by have := make_parts h; simp; omega
    have h63 := and_63 b
    have hs : b % 64 < 64 := by omega
    have hs0 : 0 ≤ b % 64 := by omega
    clear h
    generalize b % 64 = s at *
    have HS : Hid (s.toNat < 64) := hid_mk (by omega)
    generalize makeV a k n = m at *
    go_enter Try.func8, Try.ntmps8
    go_wp2_with (first
      | (go_at_call 9; refine calls_same (alive_any _) ?_)
      | (go_at_call 10; refine calls_same (M.out _) ?_)
      | (go_at_call 14; refine calls_same (T.out _ HS.out _) ?_))
    go_ret
    exact ⟨rfl, rfl⟩
  · rw [make_bad h] at M
    clear h
    go_enter Try.func8, Try.ntmps8
    go_wp2_with (first
      | (go_at_call 9; refine calls_same (alive_any _) ?_)
      | (go_at_call 10; refine calls_same (M.out _) ?_))
    go_ret
    exact ⟨rfl, rfl⟩
end Go.Proofs.Ytpglpljeomfblaa
