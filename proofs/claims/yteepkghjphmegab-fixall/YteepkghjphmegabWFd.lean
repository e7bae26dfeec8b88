/- the walks of Fd -/
import Derived.Test.YteepkghjphmegabWFs
import Derived.Test.YteepkghjphmegabM4
namespace Go.Proofs.Yteepkghjphmegab
open Go.ChangeShapes Go.WideShapes Go.ChangeAt Go.RowKit
set_option linter.unusedVariables false
set_option linter.unusedSimpArgs false

set_option maxHeartbeats 8000000 in
theorem refFloDiv_sp (a b : Int) (w : World) (ha1 : -9223372036854775808 ≤ a) (ha2 : a ≤ 9223372036854775807) (hb1 : -9223372036854775808 ≤ b) (hb2 : b ≤ 9223372036854775807)
    (hsp : pNone a = true ∨ pNone b = true ∨ pInf a = true ∨ pInf b = true ∨ pWhole b = 0) :
    Calls Try.prog 59 #[.int .i64 a, .int .i64 b] w fun e w' => e = .returned (.int .i64 (divV a b)) ∧ Below w.heap.size w w' := by
  obtain ⟨nA, hnA⟩ : ∃ x, x = pNone a := ⟨_, rfl⟩
  obtain ⟨iA, hiA⟩ : ∃ x, x = pInf a := ⟨_, rfl⟩
  obtain ⟨gA, hgA⟩ : ∃ x, x = pNeg a := ⟨_, rfl⟩
  obtain ⟨nB, hnB⟩ : ∃ x, x = pNone b := ⟨_, rfl⟩
  obtain ⟨iB, hiB⟩ : ∃ x, x = pInf b := ⟨_, rfl⟩
  obtain ⟨gB, hgB⟩ : ∃ x, x = pNeg b := ⟨_, rfl⟩
  obtain ⟨zA, hzA⟩ : ∃ x, x = (pWhole a == 0) := ⟨_, rfl⟩
  obtain ⟨zB, hzB⟩ : ∃ x, x = (pWhole b == 0) := ⟨_, rfl⟩
  have HV : Hid (divV a b = if nA = true ∨ nB = true ∨ (iA = true ∧ iB = true) ∨ (iA = false ∧ iB = false ∧ zA = true ∧ zB = true) then noNum else if iA = true ∨ (iB = false ∧ zB = true) then signedV (gA != gB) 9218868437227405312 else if iB = true then signedV (gA != gB) 0 else rndV (gA != gB) (pWhole a * 2 ^ 120 / pWhole b) (pExp a - pExp b - 120) (decide (0 < pWhole a * 2 ^ 120 % pWhole b))) := by
    show divV a b = _
    unfold divV; rw [hnA, hnB, hiA, hiB, hgA, hgB, hzA, hzB]; simp only [beq_iff_eq]
  have HS : Hid (nA = true ∨ nB = true ∨ iA = true ∨ iB = true ∨ zB = true) := by show _ ∨ _; rw [hnA, hnB, hiA, hiB, hzB]; simpa using hsp
  have HfA := hid_mk (flo_as hgA hiA hnA)
  have HfB := hid_mk (flo_as hgB hiB hnB)
  have kA := hzA.symm
  have kB := hzB.symm
  clear hnA hiA hgA hnB hiB hgB hzA hzB hsp
  go_enter Try.func59, Try.ntmps59
  go_wp2_with fail
  refine (refParts_any a _ ha1 ha2).mono ?_
  rintro e w1 ⟨rfl, hg1⟩
  rw [HfA.out]
  go_wp2_with fail
  refine (refParts_any b _ hb1 hb2).mono ?_
  rintro e w2 ⟨rfl, hg2⟩
  rw [HfB.out]
  have hA2 := heap_below (heap_alloc_new w1 (.cells #[.bool gA, .bool iA, .bool nA, .int .i64 (pWhole a), .int .i64 (pExp a)] 51)) hg2
  have hW2 : Below w.heap.size w w2 := (hg1.alloc hg1.size _).trans (hg2.mono (by have := hg1.size; simp; omega))
  clear hg1 hg2 HfA HfB
  cases nA <;> cases nB <;> cases iA <;> cases iB
  case false.false.false.false =>
    obtain ⟨x0, x1, x2, x3, x4⟩ := cells5 ((heap_alloc_old w2 (.cells #[.bool gB, .bool false, .bool false, .int .i64 (pWhole b), .int .i64 (pExp b)] 51) (heap_lt hA2)).trans hA2)
    have hW3 := hW2.alloc hW2.size (.cells #[.bool gB, .bool false, .bool false, .int .i64 (pWhole b), .int .i64 (pExp b)] 51)
    obtain rfl : zB = true := by simpa using HS.out
    clear HS hA2 hW2
    cases zA
    all_goals
      go_wp2_with (first | (go_at_call 43; refine calls_same (refInfinity_any _ _) ?_) | (go_at_call 41; refine calls_same (refSigned_any _ _ _ (by omega) (by omega)) ?_))
      all_goals go_ret
      all_goals exact ⟨ret_int (by rw [HV.out]; cases gA <;> cases gB <;> simp [noNum]), hW3⟩
  case false.false.false.true =>
    obtain ⟨x0, x1, x2, x3, x4⟩ := cells5 ((heap_alloc_old w2 (.cells #[.bool gB, .bool true, .bool false, .int .i64 (pWhole b), .int .i64 (pExp b)] 51) (heap_lt hA2)).trans hA2)
    have hW3 := hW2.alloc hW2.size (.cells #[.bool gB, .bool true, .bool false, .int .i64 (pWhole b), .int .i64 (pExp b)] 51)
    clear HS hA2 hW2
    cases zA <;> cases zB
    all_goals
      go_wp2_with (first | (go_at_call 43; refine calls_same (refInfinity_any _ _) ?_) | (go_at_call 41; refine calls_same (refSigned_any _ _ _ (by omega) (by omega)) ?_))
      all_goals go_ret
      all_goals exact ⟨ret_int (by rw [HV.out]; cases gA <;> cases gB <;> simp [noNum]), hW3⟩
  case false.false.true.false =>
    obtain ⟨x0, x1, x2, x3, x4⟩ := cells5 ((heap_alloc_old w2 (.cells #[.bool gB, .bool false, .bool false, .int .i64 (pWhole b), .int .i64 (pExp b)] 51) (heap_lt hA2)).trans hA2)
    have hW3 := hW2.alloc hW2.size (.cells #[.bool gB, .bool false, .bool false, .int .i64 (pWhole b), .int .i64 (pExp b)] 51)
    clear HS hA2 hW2
    cases zA <;> cases zB
    all_goals
      go_wp2_with (first | (go_at_call 43; refine calls_same (refInfinity_any _ _) ?_) | (go_at_call 41; refine calls_same (refSigned_any _ _ _ (by omega) (by omega)) ?_))
      all_goals go_ret
      all_goals exact ⟨ret_int (by rw [HV.out]; cases gA <;> cases gB <;> simp [noNum]), hW3⟩
  case false.false.true.true =>
    obtain ⟨x0, x1, x2, x3, x4⟩ := cells5 ((heap_alloc_old w2 (.cells #[.bool gB, .bool true, .bool false, .int .i64 (pWhole b), .int .i64 (pExp b)] 51) (heap_lt hA2)).trans hA2)
    have hW3 := hW2.alloc hW2.size (.cells #[.bool gB, .bool true, .bool false, .int .i64 (pWhole b), .int .i64 (pExp b)] 51)
    clear HS hA2 hW2
    cases zA <;> cases zB
    all_goals
      go_wp2_with (first | (go_at_call 43; refine calls_same (refInfinity_any _ _) ?_) | (go_at_call 41; refine calls_same (refSigned_any _ _ _ (by omega) (by omega)) ?_))
      all_goals go_ret
      all_goals exact ⟨ret_int (by rw [HV.out]; cases gA <;> cases gB <;> simp [noNum]), hW3⟩
  case false.true.false.false =>
    obtain ⟨x0, x1, x2, x3, x4⟩ := cells5 ((heap_alloc_old w2 (.cells #[.bool gB, .bool false, .bool true, .int .i64 (pWhole b), .int .i64 (pExp b)] 51) (heap_lt hA2)).trans hA2)
    have hW3 := hW2.alloc hW2.size (.cells #[.bool gB, .bool false, .bool true, .int .i64 (pWhole b), .int .i64 (pExp b)] 51)
    clear HS hA2 hW2
    cases zA <;> cases zB
    all_goals
      go_wp2_with (first | (go_at_call 43; refine calls_same (refInfinity_any _ _) ?_) | (go_at_call 41; refine calls_same (refSigned_any _ _ _ (by omega) (by omega)) ?_))
      all_goals go_ret
      all_goals exact ⟨ret_int (by rw [HV.out]; cases gA <;> cases gB <;> simp [noNum]), hW3⟩
  case false.true.false.true =>
    obtain ⟨x0, x1, x2, x3, x4⟩ := cells5 ((heap_alloc_old w2 (.cells #[.bool gB, .bool true, .bool true, .int .i64 (pWhole b), .int .i64 (pExp b)] 51) (heap_lt hA2)).trans hA2)
    have hW3 := hW2.alloc hW2.size (.cells #[.bool gB, .bool true, .bool true, .int .i64 (pWhole b), .int .i64 (pExp b)] 51)
    clear HS hA2 hW2
    cases zA <;> cases zB
    all_goals
      go_wp2_with (first | (go_at_call 43; refine calls_same (refInfinity_any _ _) ?_) | (go_at_call 41; refine calls_same (refSigned_any _ _ _ (by omega) (by omega)) ?_))
      all_goals go_ret
      all_goals exact ⟨ret_int (by rw [HV.out]; cases gA <;> cases gB <;> simp [noNum]), hW3⟩
  case false.true.true.false =>
    obtain ⟨x0, x1, x2, x3, x4⟩ := cells5 ((heap_alloc_old w2 (.cells #[.bool gB, .bool false, .bool true, .int .i64 (pWhole b), .int .i64 (pExp b)] 51) (heap_lt hA2)).trans hA2)
    have hW3 := hW2.alloc hW2.size (.cells #[.bool gB, .bool false, .bool true, .int .i64 (pWhole b), .int .i64 (pExp b)] 51)
    clear HS hA2 hW2
    cases zA <;> cases zB
    all_goals
      go_wp2_with (first | (go_at_call 43; refine calls_same (refInfinity_any _ _) ?_) | (go_at_call 41; refine calls_same (refSigned_any _ _ _ (by omega) (by omega)) ?_))
      all_goals go_ret
      all_goals exact ⟨ret_int (by rw [HV.out]; cases gA <;> cases gB <;> simp [noNum]), hW3⟩
  case false.true.true.true =>
    obtain ⟨x0, x1, x2, x3, x4⟩ := cells5 ((heap_alloc_old w2 (.cells #[.bool gB, .bool true, .bool true, .int .i64 (pWhole b), .int .i64 (pExp b)] 51) (heap_lt hA2)).trans hA2)
    have hW3 := hW2.alloc hW2.size (.cells #[.bool gB, .bool true, .bool true, .int .i64 (pWhole b), .int .i64 (pExp b)] 51)
    clear HS hA2 hW2
    cases zA <;> cases zB
    all_goals
      go_wp2_with (first | (go_at_call 43; refine calls_same (refInfinity_any _ _) ?_) | (go_at_call 41; refine calls_same (refSigned_any _ _ _ (by omega) (by omega)) ?_))
      all_goals go_ret
      all_goals exact ⟨ret_int (by rw [HV.out]; cases gA <;> cases gB <;> simp [noNum]), hW3⟩
  case true.false.false.false =>
    obtain ⟨x0, x1, x2, x3, x4⟩ := cells5 ((heap_alloc_old w2 (.cells #[.bool gB, .bool false, .bool false, .int .i64 (pWhole b), .int .i64 (pExp b)] 51) (heap_lt hA2)).trans hA2)
    have hW3 := hW2.alloc hW2.size (.cells #[.bool gB, .bool false, .bool false, .int .i64 (pWhole b), .int .i64 (pExp b)] 51)
    clear HS hA2 hW2
    cases zA <;> cases zB
    all_goals
      go_wp2_with (first | (go_at_call 43; refine calls_same (refInfinity_any _ _) ?_) | (go_at_call 41; refine calls_same (refSigned_any _ _ _ (by omega) (by omega)) ?_))
      all_goals go_ret
      all_goals exact ⟨ret_int (by rw [HV.out]; cases gA <;> cases gB <;> simp [noNum]), hW3⟩
  case true.false.false.true =>
    obtain ⟨x0, x1, x2, x3, x4⟩ := cells5 ((heap_alloc_old w2 (.cells #[.bool gB, .bool true, .bool false, .int .i64 (pWhole b), .int .i64 (pExp b)] 51) (heap_lt hA2)).trans hA2)
    have hW3 := hW2.alloc hW2.size (.cells #[.bool gB, .bool true, .bool false, .int .i64 (pWhole b), .int .i64 (pExp b)] 51)
    clear HS hA2 hW2
    cases zA <;> cases zB
    all_goals
      go_wp2_with (first | (go_at_call 43; refine calls_same (refInfinity_any _ _) ?_) | (go_at_call 41; refine calls_same (refSigned_any _ _ _ (by omega) (by omega)) ?_))
      all_goals go_ret
      all_goals exact ⟨ret_int (by rw [HV.out]; cases gA <;> cases gB <;> simp [noNum]), hW3⟩
  case true.false.true.false =>
    obtain ⟨x0, x1, x2, x3, x4⟩ := cells5 ((heap_alloc_old w2 (.cells #[.bool gB, .bool false, .bool false, .int .i64 (pWhole b), .int .i64 (pExp b)] 51) (heap_lt hA2)).trans hA2)
    have hW3 := hW2.alloc hW2.size (.cells #[.bool gB, .bool false, .bool false, .int .i64 (pWhole b), .int .i64 (pExp b)] 51)
    clear HS hA2 hW2
    cases zA <;> cases zB
    all_goals
      go_wp2_with (first | (go_at_call 43; refine calls_same (refInfinity_any _ _) ?_) | (go_at_call 41; refine calls_same (refSigned_any _ _ _ (by omega) (by omega)) ?_))
      all_goals go_ret
      all_goals exact ⟨ret_int (by rw [HV.out]; cases gA <;> cases gB <;> simp [noNum]), hW3⟩
  case true.false.true.true =>
    obtain ⟨x0, x1, x2, x3, x4⟩ := cells5 ((heap_alloc_old w2 (.cells #[.bool gB, .bool true, .bool false, .int .i64 (pWhole b), .int .i64 (pExp b)] 51) (heap_lt hA2)).trans hA2)
    have hW3 := hW2.alloc hW2.size (.cells #[.bool gB, .bool true, .bool false, .int .i64 (pWhole b), .int .i64 (pExp b)] 51)
    clear HS hA2 hW2
    cases zA <;> cases zB
    all_goals
      go_wp2_with (first | (go_at_call 43; refine calls_same (refInfinity_any _ _) ?_) | (go_at_call 41; refine calls_same (refSigned_any _ _ _ (by omega) (by omega)) ?_))
      all_goals go_ret
      all_goals exact ⟨ret_int (by rw [HV.out]; cases gA <;> cases gB <;> simp [noNum]), hW3⟩
  case true.true.false.false =>
    obtain ⟨x0, x1, x2, x3, x4⟩ := cells5 ((heap_alloc_old w2 (.cells #[.bool gB, .bool false, .bool true, .int .i64 (pWhole b), .int .i64 (pExp b)] 51) (heap_lt hA2)).trans hA2)
    have hW3 := hW2.alloc hW2.size (.cells #[.bool gB, .bool false, .bool true, .int .i64 (pWhole b), .int .i64 (pExp b)] 51)
    clear HS hA2 hW2
    cases zA <;> cases zB
    all_goals
      go_wp2_with (first | (go_at_call 43; refine calls_same (refInfinity_any _ _) ?_) | (go_at_call 41; refine calls_same (refSigned_any _ _ _ (by omega) (by omega)) ?_))
      all_goals go_ret
      all_goals exact ⟨ret_int (by rw [HV.out]; cases gA <;> cases gB <;> simp [noNum]), hW3⟩
  case true.true.false.true =>
    obtain ⟨x0, x1, x2, x3, x4⟩ := cells5 ((heap_alloc_old w2 (.cells #[.bool gB, .bool true, .bool true, .int .i64 (pWhole b), .int .i64 (pExp b)] 51) (heap_lt hA2)).trans hA2)
    have hW3 := hW2.alloc hW2.size (.cells #[.bool gB, .bool true, .bool true, .int .i64 (pWhole b), .int .i64 (pExp b)] 51)
    clear HS hA2 hW2
    cases zA <;> cases zB
    all_goals
      go_wp2_with (first | (go_at_call 43; refine calls_same (refInfinity_any _ _) ?_) | (go_at_call 41; refine calls_same (refSigned_any _ _ _ (by omega) (by omega)) ?_))
      all_goals go_ret
      all_goals exact ⟨ret_int (by rw [HV.out]; cases gA <;> cases gB <;> simp [noNum]), hW3⟩
  case true.true.true.false =>
    obtain ⟨x0, x1, x2, x3, x4⟩ := cells5 ((heap_alloc_old w2 (.cells #[.bool gB, .bool false, .bool true, .int .i64 (pWhole b), .int .i64 (pExp b)] 51) (heap_lt hA2)).trans hA2)
    have hW3 := hW2.alloc hW2.size (.cells #[.bool gB, .bool false, .bool true, .int .i64 (pWhole b), .int .i64 (pExp b)] 51)
    clear HS hA2 hW2
    cases zA <;> cases zB
    all_goals
      go_wp2_with (first | (go_at_call 43; refine calls_same (refInfinity_any _ _) ?_) | (go_at_call 41; refine calls_same (refSigned_any _ _ _ (by omega) (by omega)) ?_))
      all_goals go_ret
      all_goals exact ⟨ret_int (by rw [HV.out]; cases gA <;> cases gB <;> simp [noNum]), hW3⟩
  case true.true.true.true =>
    obtain ⟨x0, x1, x2, x3, x4⟩ := cells5 ((heap_alloc_old w2 (.cells #[.bool gB, .bool true, .bool true, .int .i64 (pWhole b), .int .i64 (pExp b)] 51) (heap_lt hA2)).trans hA2)
    have hW3 := hW2.alloc hW2.size (.cells #[.bool gB, .bool true, .bool true, .int .i64 (pWhole b), .int .i64 (pExp b)] 51)
    clear HS hA2 hW2
    cases zA <;> cases zB
    all_goals
      go_wp2_with (first | (go_at_call 43; refine calls_same (refInfinity_any _ _) ?_) | (go_at_call 41; refine calls_same (refSigned_any _ _ _ (by omega) (by omega)) ?_))
      all_goals go_ret
      all_goals exact ⟨ret_int (by rw [HV.out]; cases gA <;> cases gB <;> simp [noNum]), hW3⟩
end Go.Proofs.Yteepkghjphmegab
