/- the laws' own parts -/
import Derived.Test.YtpglpljeomfblaaHb
namespace Go.Proofs.Ytpglpljeomfblaa
open Go.ChangeShapes Go.WideShapes Go.ChangeAt Go.RowKit
set_option linter.unusedVariables false
set_option linter.unusedSimpArgs false

theorem read_own {a k n : Int} (h : Good a k n) : readB a (makeV a k n) = true ∧ readK a (makeV a k n) = k ∧ readN a (makeV a k n) = n := by
  have r : readB a (makeV a k n) = true := by rw [read_made h]; simp
  obtain ⟨p1, p2, p3, p4, p5, p6⟩ := make_parts h
  obtain ⟨e1, e2⟩ := readK_true r
  rw [e1, e2]
  exact ⟨r, p4, p5⟩
theorem alive_any (w : World) : Calls Try.prog 9 #[] w fun e w' => e = .returned (.bool true) ∧ w' = w := by
  have M := hid_mk (make_any 8 3 5)
  have RM := hid_mk (refMake_any 8 3 5)
  have RD := hid_mk (read_any 8 (makeV 8 3 5))
  obtain ⟨e1, e2, e3⟩ := read_own (show Good 8 3 5 from goodB_true.1 (by decide))
  rw [e1, e2, e3] at RD
  clear e1 e2 e3
  generalize makeV 8 3 5 = m at *
  go_enter Try.func9, Try.ntmps9
  go_wp2_with (first
    | (go_at_call 10; refine calls_same (M.out _) ?_)
    | (go_at_call 11; refine calls_same (RM.out _) ?_)
    | (go_at_call 14; refine calls_same (RD.out _) ?_))
  go_ret
  exact ⟨rfl, rfl⟩
theorem lawRead_any (a v : Int) (w : World) (v2 : v ≤ 9223372036854775807) : Calls Try.prog 12 #[.int .i64 a, .int .i64 v] w fun e w' => e = .returned (.bool true) ∧ w' = w := by
  have RD := hid_mk (read_any a v)
  have RR := hid_mk (fun w => refRead_any a v w v2)
  clear v2
  generalize readK a v = k at *
  generalize readN a v = n at *
  generalize readB a v = r at *
  go_enter Try.func12, Try.ntmps12
  go_wp2_with (first
    | (go_at_call 14; refine calls_same (RD.out _) ?_)
    | (go_at_call 20; refine calls_same (RR.out _) ?_))
  go_ret
  exact ⟨rfl, rfl⟩
theorem wrap_le (v : Int) : wrap64 v ≤ 9223372036854775807 := by unfold wrap64; omega
theorem makes_any (a k n : Int) (w : World) : Calls Try.prog 3 #[.int .i64 a, .int .i64 k, .int .i64 n] w fun e w' => e = .returned (.bool true) ∧ w' = w := by
  have M := hid_mk (make_any a k n)
  have RM := hid_mk (refMake_any a k n)
  generalize makeV a k n = m at *
  go_enter Try.func3, Try.ntmps3
  go_wp2_with (first
    | (go_at_call 9; refine calls_same (alive_any _) ?_)
    | (go_at_call 10; refine calls_same (M.out _) ?_)
    | (go_at_call 11; refine calls_same (RM.out _) ?_))
  go_ret
  exact ⟨rfl, rfl⟩
theorem reads_any (a v k n : Int) (w : World) (v2 : v ≤ 9223372036854775807) : Calls Try.prog 4 #[.int .i64 a, .int .i64 v, .int .i64 k, .int .i64 n] w fun e w' => e = .returned (.bool true) ∧ w' = w := by
  have RM := hid_mk (refMake_any a k n)
  have HV := hid_mk v2
  have HM := hid_mk (make_range a k n).2
  clear v2
  generalize makeV a k n = m at *
  go_enter Try.func4, Try.ntmps4
  go_wp2_with (first
    | (go_at_call 9; refine calls_same (alive_any _) ?_)
    | (go_at_call 11; refine calls_same (RM.out _) ?_)
    | (go_at_call 12; refine calls_same (lawRead_any _ _ _ (by first | exact HV.out | exact HM.out | exact wrap_le _)) ?_))
  go_ret
  exact ⟨rfl, rfl⟩
theorem calls_below {P : Program} {f : FuncId} {args : Array Value} {w : World} {v : Value} (h : Calls P f args w (fun e w' => e = .returned v ∧ w' = w)) : Calls P f args w (fun e w' => e = .returned v ∧ Below w.heap.size w w') :=
  h.mono (by rintro e w' ⟨rfl, rfl⟩; exact ⟨rfl, Below.refl _ _⟩)
theorem lawGood_any (a k n : Int) (w : World) : Calls Try.prog 15 #[.int .i64 a, .int .i64 k, .int .i64 n] w fun e w' => e = .returned (.bool (goodB a k n)) ∧ w' = w := by
  go_enter Try.func15, Try.ntmps15
  go_wp2
  all_goals go_ret
  all_goals refine ⟨ret_bool ?_, rfl⟩
  all_goals (unfold goodB; rw [Bool.eq_iff_iff]; simp; try omega)
end Go.Proofs.Ytpglpljeomfblaa
