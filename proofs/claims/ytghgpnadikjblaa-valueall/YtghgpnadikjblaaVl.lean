/- the order's law -/
import Derived.Test.YtghgpnadikjblaaVh
namespace Go.Proofs.Ytghgpnadikjblaa
open Go.ChangeShapes Go.WideShapes Go.ChangeAt Go.RowKit
set_option linter.unusedVariables false
set_option linter.unusedSimpArgs false

/-- two values' blocks, as the walk reads them -/
theorem calls_held2 {f : FuncId} {args : Array Value} {v : Value} {w0 w : World} {g g' : Nat} {a b c d : Int} (h : Calls Try.prog f args w (fun e w' => e = .returned v ∧ Below w.heap.size w w'))
    (hS : w.cell? ⟨g, 0, none⟩ = some (.int .i64 a) ∧ w.cell? ⟨g, 1, none⟩ = some (.int .i64 b) ∧ w.cell? ⟨g', 0, none⟩ = some (.int .i64 c) ∧ w.cell? ⟨g', 1, none⟩ = some (.int .i64 d) ∧ VC w g a b ∧ VC w g' c d ∧ Below w0.heap.size w0 w) :
    Calls Try.prog f args w (fun e w' => e = .returned v ∧ w'.cell? ⟨g, 0, none⟩ = some (.int .i64 a) ∧ w'.cell? ⟨g, 1, none⟩ = some (.int .i64 b) ∧ w'.cell? ⟨g', 0, none⟩ = some (.int .i64 c) ∧ w'.cell? ⟨g', 1, none⟩ = some (.int .i64 d) ∧ VC w' g a b ∧ VC w' g' c d ∧ Below w0.heap.size w0 w') := by
  obtain ⟨_, _, _, _, hV, hV', hb⟩ := hS
  exact h.mono fun _ _ ⟨he, hg⟩ => ⟨he, (hV.kept hg).facts.1, (hV.kept hg).facts.2.1, (hV'.kept hg).facts.1, (hV'.kept hg).facts.2.1, hV.kept hg, hV'.kept hg, below_seq hb hg⟩
set_option maxHeartbeats 4000000 in
theorem lawLess_any (a b c d : Int) (w : World) : Calls Try.prog 6 #[val a b, val c d] w fun e w' => e = .returned (.bool true) ∧ Below w.heap.size w w' := by
  have l1 : ∀ a b c d w, _ := less_any
  have l2 : ∀ a b c d w, _ := refLess_any
  unfold val at l1 l2 ⊢
  have L1 := hid_mk l1
  have L2 := hid_mk l2
  clear l1 l2
  have b1 : Below w.heap.size w (w.alloc (.cells #[.int .i64 a, .int .i64 b] 25)) := (Below.refl _ _).alloc (Nat.le_refl _) _
  have b2 := b1.alloc b1.size (.cells #[.int .i64 c, .int .i64 d] 25)
  clear b1
  have V0 := ((VC.new w a b).alloc (.cells #[.int .i64 c, .int .i64 d] 25))
  have V1 : VC ((w.alloc (.cells #[.int .i64 a, .int .i64 b] 25)).alloc (.cells #[.int .i64 c, .int .i64 d] 25)) (w.heap.size + 1) c d := heap_alloc2_new _ _ _
  obtain ⟨x0, x1, _, _⟩ := V0.facts
  obtain ⟨x4, x5, _, _⟩ := V1.facts
  go_enter Try.func6, Try.ntmps6
  go_wp2_with fail
  go_region_held3 (fun w' => w'.cell? ⟨w.heap.size, 0, none⟩ = some (.int .i64 a) ∧ w'.cell? ⟨w.heap.size, 1, none⟩ = some (.int .i64 b) ∧ w'.cell? ⟨w.heap.size + 1, 0, none⟩ = some (.int .i64 c) ∧ w'.cell? ⟨w.heap.size + 1, 1, none⟩ = some (.int .i64 d) ∧ VC w' w.heap.size a b ∧ VC w' (w.heap.size + 1) c d ∧ Below w.heap.size w w') (refine ⟨?_, ?_, ?_, ?_, ?_, ?_, ?_⟩ <;> first | assumption | (apply Below.drew; assumption))
    (first | (go_at_call 9; refine (calls_held2 (alive_any _) (by assumption)).mono ?_; rintro e w3 ⟨rfl, y0, y1, y2, y3, y4, y5, y6⟩) | (go_at_call 13; refine (calls_held2 (L1.out _ _ _ _ _) (by assumption)).mono ?_; rintro e w3 ⟨rfl, y0, y1, y2, y3, y4, y5, y6⟩) | (go_at_call 14; refine (calls_held2 (L2.out _ _ _ _ _) (by assumption)).mono ?_; rintro e w3 ⟨rfl, y0, y1, y2, y3, y4, y5, y6⟩))
  all_goals go_wp2
  all_goals go_ret
  all_goals exact ⟨rfl, y6⟩
end Go.Proofs.Ytghgpnadikjblaa
