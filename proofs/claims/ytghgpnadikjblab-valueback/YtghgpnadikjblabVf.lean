/- words of values, the order, links -/
import Derived.Test.YtghgpnadikjblabVe
namespace Go.Proofs.Ytghgpnadikjblab
open Go.ChangeShapes Go.WideShapes Go.ChangeAt Go.RowKit
set_option linter.unusedVariables false
set_option linter.unusedSimpArgs false

def wordV (k n : Int) : Int := if validB k n = true then n * 8 + (k - 1) else 0
theorem valid_range {k n : Int} (h : validB k n = true) : 1 ≤ k ∧ k ≤ 4 ∧ -1152921504606846976 ≤ n ∧ n ≤ 1152921504606846975 := by
  unfold validB at h; rw [decide_eq_true_eq] at h; omega
theorem ret_ib {a c : Int} {b d : Bool} (h1 : a = c) (h2 : b = d) : Ending.returned (.tuple #[.int .i64 a, .bool b]) = .returned (.tuple #[.int .i64 c, .bool d]) := by rw [h1, h2]
set_option maxHeartbeats 1000000 in
theorem word_any (k n : Int) (w : World) :
    Calls Try.prog 6 #[val k n] w fun e w' => e = .returned (.tuple #[.int .i64 (wordV k n), .bool (validB k n)]) ∧ Below w.heap.size w w' := by
  unfold val
  have b1 : Below w.heap.size w (w.alloc (.cells #[.int .i64 k, .int .i64 n] 23)) := (Below.refl _ _).alloc (Nat.le_refl _) _
  have V0 := VC.new w k n
  obtain ⟨x0, x1, x2, x3⟩ := V0.facts
  have HV := hid_mk V0
  clear V0
  by_cases hv : validB k n = true
  · have hw : wordV k n = n * 8 + (k - 1) := by unfold wordV; rw [if_pos hv]
    obtain ⟨r1, r2, r3, r4⟩ := valid_range hv
    have hj := fun w => join_any n (k - 1) w r3 r4 (by omega) (by omega)
    rw [hw, hv]
    go_enter Try.func6, Try.ntmps6
    go_wp2_with fail
    refine (valid_any k n _).mono ?_
    rintro e w1 ⟨rfl, hg⟩
    rw [hv]
    obtain ⟨x0, x1, x2, x3⟩ := (HV.out.kept hg).facts
    have hb := b1.trans (hg.mono b1.size)
    clear hg b1 HV
    go_wp2_with (go_at_call 13; refine calls_same (hj _) ?_)
    go_ret2
    exact ⟨rfl, hb⟩
  · have hv' := Bool.eq_false_iff.mpr hv
    have hw : wordV k n = 0 := by unfold wordV; rw [if_neg hv]
    rw [hw, hv']
    clear hv
    go_enter Try.func6, Try.ntmps6
    go_wp2_with fail
    refine (valid_any k n _).mono ?_
    rintro e w1 ⟨rfl, hg⟩
    rw [hv']
    have hb := b1.trans (hg.mono b1.size)
    clear hg b1 HV
    go_wp2_with fail
    go_ret2
    exact ⟨rfl, hb⟩

def lessB (a b c d : Int) : Bool := if a = c then decide (b < d) else decide (a < c)
set_option maxHeartbeats 1000000 in
theorem less_any (a b c d : Int) (w : World) :
    Calls Try.prog 10 #[val a b, val c d] w fun e w' => e = .returned (.bool (lessB a b c d)) ∧ Below w.heap.size w w' := by
  unfold val
  have b1 : Below w.heap.size w (w.alloc (.cells #[.int .i64 a, .int .i64 b] 23)) := (Below.refl _ _).alloc (Nat.le_refl _) _
  have b2 := b1.alloc b1.size (.cells #[.int .i64 c, .int .i64 d] 23)
  clear b1
  have V0 := ((VC.new w a b).alloc (.cells #[.int .i64 c, .int .i64 d] 23))
  have V1 : VC ((w.alloc (.cells #[.int .i64 a, .int .i64 b] 23)).alloc (.cells #[.int .i64 c, .int .i64 d] 23)) (w.heap.size + 1) c d := heap_alloc2_new _ _ _
  obtain ⟨x0, x1, x2, x3⟩ := V0.facts
  obtain ⟨x4, x5, x6, x7⟩ := V1.facts
  clear V0 V1
  unfold lessB
  by_cases h : a = c
  · subst h
    rw [if_pos rfl]
    go_enter Try.func10, Try.ntmps10
    go_wp2_with fail
    go_ret
    exact ⟨rfl, b2⟩
  · rw [if_neg h]
    have h' : (a == c) = false := by simpa using h
    clear h
    go_enter Try.func10, Try.ntmps10
    go_wp2_with fail
    go_ret
    exact ⟨rfl, b2⟩
def linkV (n : Int) : Int := if nextB n = true then n * 8 + 4 else 0
theorem link_any (n : Int) (w : World) :
    Calls Try.prog 12 #[.int .i64 n] w fun e w' => e = .returned (.int .i64 (linkV n)) ∧ w' = w := by
  by_cases hv : nextB n = true
  · have hw : linkV n = n * 8 + 4 := by unfold linkV; rw [if_pos hv]
    have hr : -1 ≤ n ∧ n ≤ 262143 := by unfold nextB at hv; simpa using hv
    have hj := fun w => join_any n 4 w (by omega) (by omega) (by omega) (by omega)
    rw [hw]
    go_enter Try.func12, Try.ntmps12
    go_wp2_with (first | (go_at_call 13; refine calls_same (hj _) ?_) | (go_at_call 18; refine calls_same (isNext_any _ _) ?_))
    go_ret
    exact ⟨rfl, rfl⟩
  · have hv' := Bool.eq_false_iff.mpr hv
    have hw : linkV n = 0 := by unfold linkV; rw [if_neg hv]
    rw [hw]
    clear hv
    go_enter Try.func12, Try.ntmps12
    go_wp2_with (first | (go_at_call 18; refine calls_same (isNext_any _ _) ?_))
    go_ret
    exact ⟨rfl, rfl⟩
end Go.Proofs.Ytghgpnadikjblab
