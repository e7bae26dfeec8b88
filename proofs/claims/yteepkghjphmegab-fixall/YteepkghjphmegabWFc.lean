/- the walks of Fc -/
import Derived.Test.YteepkghjphmegabWFb
namespace Go.Proofs.Yteepkghjphmegab
open Go.ChangeShapes Go.WideShapes Go.ChangeAt Go.RowKit
set_option linter.unusedVariables false
set_option linter.unusedSimpArgs false

set_option maxHeartbeats 8000000 in
theorem refFloAdd_diff (a b : Int) (w : World) (ha1 : -9223372036854775808 ≤ a) (ha2 : a ≤ 9223372036854775807) (hb1 : -9223372036854775808 ≤ b) (hb2 : b ≤ 9223372036854775807)
    (na : pNone a = false) (nb : pNone b = false) (ia : pInf a = false) (ib : pInf b = false) (hs : pNeg a ≠ pNeg b) :
    Calls Try.prog 53 #[.int .i64 a, .int .i64 b] w fun e w' => e = .returned (.int .i64 (finAdd a b)) ∧ Below w.heap.size w w' := by
  obtain ⟨wa0, wa1⟩ := pWhole_bounds a
  obtain ⟨wb0, wb1⟩ := pWhole_bounds b
  obtain ⟨ea0, ea1⟩ := pExp_bounds a
  obtain ⟨eb0, eb1⟩ := pExp_bounds b
  obtain ⟨gA, hgA⟩ : ∃ x, x = pNeg a := ⟨_, rfl⟩
  obtain ⟨gB, hgB⟩ : ∃ x, x = pNeg b := ⟨_, rfl⟩
  have HfA := hid_mk (flo_as hgA ia.symm na.symm)
  have HfB := hid_mk (flo_as hgB ib.symm nb.symm)
  have HL : Hid (lowE a b = min (pExp a) (pExp b)) := rfl
  have HV : Hid (finAdd a b = if gA = gB then rndV gA (magL a b + magR a b) (lowE a b) false else if magL a b = magR a b then 0 else if magR a b < magL a b then rndV gA (magL a b - magR a b) (lowE a b) false else rndV gB (magR a b - magL a b) (lowE a b) false) := by
    show finAdd a b = _; subst hgA; subst hgB; rfl
  obtain rfl : gB = !gA := by rw [hgA, hgB]; revert hs; cases pNeg a <;> cases pNeg b <;> simp
  have hx : (gA == !gA) = false := by cases gA <;> rfl
  clear hgA hgB na nb ia ib hs
  go_enter Try.func53, Try.ntmps53
  go_wp2_with fail
  refine (refParts_any a _ ha1 ha2).mono ?_
  rintro e w1 ⟨rfl, hg1⟩
  rw [HfA.out]
  go_wp2_with fail
  refine (refParts_any b _ hb1 hb2).mono ?_
  rintro e w2 ⟨rfl, hg2⟩
  rw [HfB.out]
  have hA2 : w2.heap[w1.heap.size]? = some (.cells #[.bool gA, .bool false, .bool false, .int .i64 (pWhole a), .int .i64 (pExp a)] 51 (0, 0)) := heap_below (heap_alloc_new w1 _) hg2
  have hW2 : Below w.heap.size w w2 := (hg1.alloc hg1.size _).trans (hg2.mono (by have := hg1.size; simp; omega))
  have hA3 := (heap_alloc_old w2 (.cells #[.bool (!gA), .bool false, .bool false, .int .i64 (pWhole b), .int .i64 (pExp b)] 51) (heap_lt hA2)).trans hA2
  have hB3 := heap_alloc_new w2 (.cells #[.bool (!gA), .bool false, .bool false, .int .i64 (pWhole b), .int .i64 (pExp b)] 51)
  have hW3 := hW2.alloc hW2.size (.cells #[.bool (!gA), .bool false, .bool false, .int .i64 (pWhole b), .int .i64 (pExp b)] 51)
  clear hg1 hg2 hA2 hW2
  obtain ⟨x0, x1, x2, x3, x4⟩ := cells5 hA3
  by_cases hle : pExp b < pExp a
  all_goals
    have hlow : Hid (lowE a b = pExp b ∧ pExp b < pExp a ∨ lowE a b = pExp a ∧ ¬ pExp b < pExp a) := by
      show _ ∨ _; unfold lowE; omega
    go_wp2_with fail
    refine (refListI_any _ _ _ (by omega) (by omega) (by omega) (by omega)).mono ?_
    rintro e w4 ⟨v1, len1, rfl, hl1, hl1', hp1, hb4⟩
    have hA4 := heap_below hA3 hb4
    have hB4 := heap_below hB3 hb4
    have hW4 := below_seq hW3 hb4
    clear hA3 hB3 hW3 hb4 x0 x1 x2 x3 x4
    obtain ⟨x0, x1, x2, x3, x4⟩ := cells5 hA4
    obtain ⟨y0, y1, y2, y3, y4⟩ := cells5 hB4
    go_wp2_with fail
    refine (refListI_any _ _ _ (by omega) (by omega) (by omega) (by omega)).mono ?_
    rintro e w5 ⟨v2, len2, rfl, hl2, hl2', hp2, hb5⟩
    have hA5 := heap_below hA4 hb5
    have hB5 := heap_below hB4 hb5
    have hW5 := below_seq hW4 hb5
    have hq1 := hp1.kept hb5
    clear hA4 hB4 hW4 hb5 hp1 x0 x1 x2 x3 x4 y0 y1 y2 y3 y4
    obtain ⟨x0, x1, x2, x3, x4⟩ := cells5 hA5
    obtain ⟨y0, y1, y2, y3, y4⟩ := cells5 hB5
    have r1 := hq1.cast (N' := magL a b) (mag_cast _ (by have := hlow.out; omega))
    have r2 := hp2.cast (N' := magR a b) (mag_cast _ (by have := hlow.out; omega))
    have HLow : Hid (lowE a b = pExp a ∨ lowE a b = pExp b) := by have := hlow.out; show _ ∨ _; omega
    clear hq1 hp2
    generalize magL a b = X at *
    generalize magR a b = Y at *
    have hlow2 : -1074 ≤ lowE a b ∧ lowE a b ≤ 971 := by have := HLow.out; omega
    obtain ⟨lo1, lo2⟩ := hlow2
    have hs5 := hW5.size
    have HR : Hid (finAdd a b = if X = Y then 0 else if Y < X then rndV gA (X - Y) (lowE a b) false else rndV (!gA) (Y - X) (lowE a b) false) := by (show finAdd a b = _; rw [HV.out]; cases gA <;> simp)
    clear HV
    go_wp2_with fail
    refine (refCompared_any _ _ X Y len1 len2 _ _ _ r1 r2 (by omega) (by omega)).mono ?_
    rintro e w6 ⟨r, rfl, hr, hw6⟩
    obtain rfl : w5 = w6 := hw6.symm
    clear hw6
    rcases hr with ⟨h1, rfl⟩ | ⟨h1, rfl⟩ | ⟨h1, rfl⟩
    · have H1 := hid_mk h1
      clear h1
      go_wp2_with fail
      go_ret
      exact ⟨ret_int (by rw [HR.out, if_pos H1.out]), hW5⟩
    · have HD : Hid (finAdd a b = rndV gA (X - Y) (lowE a b) false) := by (show finAdd a b = _; rw [HR.out, if_neg (by omega), if_pos h1])
      go_wp2_with fail
      go_region_with (first
        | (go_at_call 69; refine (refDiff_any _ _ X Y len1 len2 _ _ _ (BL.drew r1) (BL.drew r2) (by omega) (by omega) (by omega)).mono ?_; rintro e w6 ⟨v3, rfl, hv, hbe⟩; have hA6 := (cells5 (heap_below (W := w5.drew) hA5 hbe)).1; have hW6 := below_seq hW5.drew hbe)
        | (go_at_call 26; refine calls_same (refRnd_any _ _ _ _ _ _ _ _ hv (by omega) (by omega) (by omega)) ?_))
      all_goals go_wp2
      all_goals go_ret
      all_goals exact ⟨ret_int (by rw [HD.out]; have := hlow.out; congr 1; omega), by assumption⟩
    · have HD : Hid (finAdd a b = rndV (!gA) (Y - X) (lowE a b) false) := by (show finAdd a b = _; rw [HR.out, if_neg (by omega), if_neg (by omega)])
      go_wp2_with fail
      go_region_with (first
        | (go_at_call 69; refine (refDiff_any _ _ Y X len2 len1 _ _ _ (BL.drew r2) (BL.drew r1) (by omega) (by omega) (by omega)).mono ?_; rintro e w6 ⟨v3, rfl, hv, hbe⟩; have hB6 := (cells5 (heap_below (W := w5.drew) hB5 hbe)).1; have hW6 := below_seq hW5.drew hbe)
        | (go_at_call 26; refine calls_same (refRnd_any _ _ _ _ _ _ _ _ hv (by omega) (by omega) (by omega)) ?_))
      all_goals go_wp2
      all_goals go_ret
      all_goals exact ⟨ret_int (by rw [HD.out]; have := hlow.out; congr 1; omega), by assumption⟩
end Go.Proofs.Yteepkghjphmegab
