/- read back -/
import Derived.Test.YtpglpljeomfblaaHc
import Derived.Deep.RegionWith
namespace Go.Proofs.Ytpglpljeomfblaa
open Go.ChangeShapes Go.WideShapes Go.ChangeAt Go.RowKit
set_option linter.unusedVariables false
set_option linter.unusedSimpArgs false

set_option maxHeartbeats 800000 in
theorem back_any (a k n o : Int) (w : World) : Calls Try.prog 6 #[.int .i64 a, .int .i64 k, .int .i64 n, .int .i64 o] w fun e w' => e = .returned (.bool true) ∧ w' = w := by
  have M := hid_mk (make_any a k n)
  have G := hid_mk (lawGood_any a k n)
  have R1 := hid_mk (read_any a (makeV a k n))
  have R2 := hid_mk (read_any o (makeV a k n))
  by_cases h : Good a k n
  · obtain ⟨e1, e2, e3⟩ := read_own h
    obtain ⟨p1, p2, p3, p4, p5, p6⟩ := make_parts h
    have e4 := read_made h o
    rw [e1, e2, e3] at R1
    rw [good_true h] at G
    rw [e4] at R2
    have h7 : bits .and .i64 (makeV a k n) 7 = 5 := by rw [and_7]; exact p3
    have h0 : (makeV a k n != 0) = true := by simp; omega
    have ho : (decide (o = a) == (o == a)) = true := by by_cases q : o = a <;> simp [q]
    clear e1 e2 e3 e4 h p2 p3 p4 p5 p6
    generalize readK o (makeV a k n) = k2 at *
    generalize readN o (makeV a k n) = n2 at *
    generalize makeV a k n = m at *
    go_enter Try.func6, Try.ntmps6
    go_wp2_with (first
      | (go_at_call 9; refine calls_same (alive_any _) ?_)
      | (go_at_call 15; refine calls_same (G.out _) ?_)
      | (go_at_call 10; refine calls_same (M.out _) ?_)
      | (go_at_call_of 14 (Value.int IntKind.i64 a); refine calls_same (R1.out _) ?_)
      | (go_at_call_of 14 (Value.int IntKind.i64 o); refine calls_same (R2.out _) ?_))
    go_ret
    exact ⟨ret_bool (by first | rfl | assumption), rfl⟩
  · rw [make_bad h] at M R1 R2
    have e1 := read_none (a := a) (w := 0) (.inl (by omega))
    obtain ⟨e2, e3⟩ := readK_false e1
    rw [e1, e2, e3] at R1
    rw [good_false h] at G
    clear h e1 e2 e3 R2
    go_enter Try.func6, Try.ntmps6
    go_wp2_with (first
      | (go_at_call 9; refine calls_same (alive_any _) ?_)
      | (go_at_call 15; refine calls_same (G.out _) ?_)
      | (go_at_call 10; refine calls_same (M.out _) ?_)
      | (go_at_call_of 14 (Value.int IntKind.i64 a); refine calls_same (R1.out _) ?_))
    go_ret
    exact ⟨ret_bool (by first | rfl | assumption), rfl⟩
end Go.Proofs.Ytpglpljeomfblaa
