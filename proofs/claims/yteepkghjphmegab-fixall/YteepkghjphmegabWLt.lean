/- the walks of Lt -/
import Derived.Test.YteepkghjphmegabWFb
namespace Go.Proofs.Yteepkghjphmegab
open Go.ChangeShapes Go.WideShapes Go.ChangeAt Go.RowKit
set_option linter.unusedVariables false
set_option linter.unusedSimpArgs false

set_option maxHeartbeats 2000000 in
theorem refFloLess_any (a b : Int) (w : World) (ha1 : -9223372036854775808 ≤ a) (ha2 : a ≤ 9223372036854775807) (hb1 : -9223372036854775808 ≤ b) (hb2 : b ≤ 9223372036854775807) :
    Calls Try.prog 60 #[.int .i64 a, .int .i64 b] w fun e w' => e = .returned (.bool (lessV a b)) ∧ Below w.heap.size w w' := by
  obtain ⟨nA, hnA⟩ : ∃ x, x = pNone a := ⟨_, rfl⟩
  obtain ⟨iA, hiA⟩ : ∃ x, x = pInf a := ⟨_, rfl⟩
  obtain ⟨gA, hgA⟩ : ∃ x, x = pNeg a := ⟨_, rfl⟩
  obtain ⟨nB, hnB⟩ : ∃ x, x = pNone b := ⟨_, rfl⟩
  obtain ⟨iB, hiB⟩ : ∃ x, x = pInf b := ⟨_, rfl⟩
  obtain ⟨gB, hgB⟩ : ∃ x, x = pNeg b := ⟨_, rfl⟩
  have HfA := hid_mk (flo_as hgA hiA hnA)
  have HfB := hid_mk (flo_as hgB hiB hnB)
  have HV : Hid (lessV a b = (!nA && !nB && decide (ordV a < ordV b))) := by show lessV a b = _; unfold lessV; rw [hnA, hnB]
  have HA : Hid (gA = true ∧ a < 0 ∧ ordV a = -(a - -9223372036854775808) ∨ gA = false ∧ ¬ a < 0 ∧ ordV a = a) := by
    show _ ∨ _
    by_cases h : a < 0
    · exact .inl ⟨by rw [hgA]; exact decide_eq_true h, h, ordV_neg a ha1 h⟩
    · exact .inr ⟨by rw [hgA]; exact decide_eq_false h, h, ordV_pos a ha2 h⟩
  have HB : Hid (gB = true ∧ b < 0 ∧ ordV b = -(b - -9223372036854775808) ∨ gB = false ∧ ¬ b < 0 ∧ ordV b = b) := by
    show _ ∨ _
    by_cases h : b < 0
    · exact .inl ⟨by rw [hgB]; exact decide_eq_true h, h, ordV_neg b hb1 h⟩
    · exact .inr ⟨by rw [hgB]; exact decide_eq_false h, h, ordV_pos b hb2 h⟩
  clear hnA hiA hgA hnB hiB hgB
  go_enter Try.func60, Try.ntmps60
  go_wp2_with fail
  refine (refParts_any a _ ha1 ha2).mono ?_
  rintro e w1 ⟨rfl, hg1⟩
  rw [HfA.out]
  go_wp2_with fail
  refine (refParts_any b _ hb1 hb2).mono ?_
  rintro e w2 ⟨rfl, hg2⟩
  rw [HfB.out]
  have hA2 := heap_below (heap_alloc_new w1 (.cells #[.bool gA, .bool iA, .bool nA, .int .i64 (pWhole a), .int .i64 (pExp a)] 51)) hg2
  have hW2 : Below w.heap.size w w2 := (hg1.alloc hg1.size _).trans (hg2.mono (by have := hg1.size; simp; omega))
  clear hg1 hg2 HfA HfB
  cases nA
  case true =>
    obtain ⟨x0, x1, x2, x3, x4⟩ := cells5 ((heap_alloc_old w2 (.cells #[.bool gB, .bool iB, .bool nB, .int .i64 (pWhole b), .int .i64 (pExp b)] 51) (heap_lt hA2)).trans hA2)
    have hW3 := hW2.alloc hW2.size (.cells #[.bool gB, .bool iB, .bool nB, .int .i64 (pWhole b), .int .i64 (pExp b)] 51)
    go_wp2
    go_ret
    exact ⟨ret_bool (by rw [HV.out]; simp), hW3⟩
  case false =>
    cases nB
    case true =>
      obtain ⟨x0, x1, x2, x3, x4⟩ := cells5 ((heap_alloc_old w2 (.cells #[.bool gB, .bool iB, .bool true, .int .i64 (pWhole b), .int .i64 (pExp b)] 51) (heap_lt hA2)).trans hA2)
      have hW3 := hW2.alloc hW2.size (.cells #[.bool gB, .bool iB, .bool true, .int .i64 (pWhole b), .int .i64 (pExp b)] 51)
      go_wp2
      go_ret
      exact ⟨ret_bool (by rw [HV.out]; simp), hW3⟩
    case false =>
      rcases HA.out with ⟨ga, la, va⟩ | ⟨ga, la, va⟩ <;> rcases HB.out with ⟨gb, lb, vb⟩ | ⟨gb, lb, vb⟩
      all_goals
        subst ga
        subst gb
        have VA := hid_mk va
        have VB := hid_mk vb
        clear va vb HA HB
        first
          | (obtain ⟨x0, x1, x2, x3, x4⟩ := cells5 ((heap_alloc_old w2 (.cells #[.bool true, .bool iB, .bool false, .int .i64 (pWhole b), .int .i64 (pExp b)] 51) (heap_lt hA2)).trans hA2)
             have hW3 := hW2.alloc hW2.size (.cells #[.bool true, .bool iB, .bool false, .int .i64 (pWhole b), .int .i64 (pExp b)] 51)
             go_wp2
             go_ret
             exact ⟨ret_bool (by rw [HV.out, VA.out, VB.out]; simp), hW3⟩)
          | (obtain ⟨x0, x1, x2, x3, x4⟩ := cells5 ((heap_alloc_old w2 (.cells #[.bool false, .bool iB, .bool false, .int .i64 (pWhole b), .int .i64 (pExp b)] 51) (heap_lt hA2)).trans hA2)
             have hW3 := hW2.alloc hW2.size (.cells #[.bool false, .bool iB, .bool false, .int .i64 (pWhole b), .int .i64 (pExp b)] 51)
             go_wp2
             go_ret
             exact ⟨ret_bool (by rw [HV.out, VA.out, VB.out]; simp), hW3⟩)
end Go.Proofs.Yteepkghjphmegab
