/- the laws' own parts -/
import Derived.Test.YtghgpnadikjblabVg
import Derived.Deep.RegionHeld3
namespace Go.Proofs.Ytghgpnadikjblab
open Go.ChangeShapes Go.WideShapes Go.ChangeAt Go.RowKit
set_option linter.unusedVariables false
set_option linter.unusedSimpArgs false

set_option maxHeartbeats 1000000 in
theorem alive_any (w : World) : Calls Try.prog 8 #[] w fun e w' => e = .returned (.bool true) ∧ Below w.heap.size w w' := by
  have b0 := Below.refl w.heap.size w
  have e1 : mkK 1 5 = 1 := by decide
  have e2 : mkN 1 5 = 5 := by decide
  have e3 : wordV 1 5 = 40 := by decide
  have e4 : validB 1 5 = true := by decide
  have hr := read_any 18
  have e5 : mkK (18 % 8 + 1) (18 / 8) = 3 := by decide
  have e6 : mkN (18 % 8 + 1) (18 / 8) = 2 := by decide
  have e7 : validB (18 % 8 + 1) (18 / 8) = true := by decide
  have e8 : linkV 0 = 4 := by decide
  rw [e5, e6, e7] at hr
  have HR := hid_mk hr
  clear hr e5 e6 e7
  have HF := hid_mk (fix_any 5)
  rw [e1, e2] at HF
  have HW := hid_mk (word_any 1 5)
  rw [e3, e4] at HW
  unfold val at HW
  clear e1 e2 e3 e4
  have HL := hid_mk (link_any 0)
  rw [e8] at HL
  clear e8
  go_enter Try.func8, Try.ntmps8
  go_wp2_with (first
    | (go_at_call 15; refine (calls_rel (HF.out _) (by assumption)).mono ?_; rintro e w1 ⟨rfl, hg⟩)
    | (go_at_call 6; refine (calls_rel (HW.out _) (by assumption)).mono ?_; rintro e w2 ⟨rfl, hg2⟩)
    | (go_at_call 7; refine (calls_rel (HR.out _) (by assumption)).mono ?_; rintro e w3 ⟨rfl, hg3⟩)
    | (go_at_call 12; refine calls_same (HL.out _) ?_))
  all_goals go_ret
  all_goals exact ⟨rfl, hg3.alloc hg3.size _⟩
/-- a callee that leaves a value's block as it was -/
theorem calls_held {f : FuncId} {args : Array Value} {v : Value} {w0 w : World} {g : Nat} {k n : Int} (h : Calls Try.prog f args w (fun e w' => e = .returned v ∧ Below w.heap.size w w')) (hS : w.cell? ⟨g, 0, none⟩ = some (.int .i64 k) ∧ w.cell? ⟨g, 1, none⟩ = some (.int .i64 n) ∧ VC w g k n ∧ Below w0.heap.size w0 w) :
    Calls Try.prog f args w (fun e w' => e = .returned v ∧ w'.cell? ⟨g, 0, none⟩ = some (.int .i64 k) ∧ w'.cell? ⟨g, 1, none⟩ = some (.int .i64 n) ∧ VC w' g k n ∧ Below w0.heap.size w0 w') :=
  by
  obtain ⟨_, _, hV, hb⟩ := hS
  exact h.mono fun _ _ ⟨he, hg⟩ => ⟨he, (hV.kept hg).facts.1, (hV.kept hg).facts.2.1, hV.kept hg, below_seq hb hg⟩
end Go.Proofs.Ytghgpnadikjblab
