/- words read -/
import Derived.Test.YtghgpnadikjblabVf
namespace Go.Proofs.Ytghgpnadikjblab
open Go.ChangeShapes Go.WideShapes Go.ChangeAt Go.RowKit
set_option linter.unusedVariables false
set_option linter.unusedSimpArgs false

def isLink (v : Int) : Bool := decide (v % 8 = 4) && nextB (v / 8)
def nextV (v : Int) : Int := if isLink v = true then v / 8 else 0
set_option maxHeartbeats 1000000 in
theorem read_any (v : Int) (w : World) :
    Calls Try.prog 7 #[.int .i64 v] w fun e w' => e = .returned (.tuple #[.agg #[.int .i64 (mkK (v % 8 + 1) (v / 8)), .int .i64 (mkN (v % 8 + 1) (v / 8))], .bool (validB (v % 8 + 1) (v / 8))]) ∧ Below w.heap.size w w' := by
  obtain ⟨t, ht⟩ : ∃ t, t = v % 8 := ⟨_, rfl⟩
  obtain ⟨b, hb⟩ : ∃ b, b = v / 8 := ⟨_, rfl⟩
  have hs := hid_mk (fun w => split_any v w)
  rw [← ht, ← hb] at hs ⊢
  have t1 : 0 ≤ t := by omega
  have t2 : t < 8 := by omega
  clear ht hb
  have b1 : Below w.heap.size w (w.alloc (.cells #[.int .i64 0, .int .i64 0] 23)) := (Below.refl _ _).alloc (Nat.le_refl _) _
  have b2 := b1.alloc b1.size (.cells #[.int .i64 (t + 1), .int .i64 b] 23)
  have HB := hid_mk b2
  have V0 := hid_mk ((VC.new w 0 0).alloc (.cells #[.int .i64 (t + 1), .int .i64 b] 23))
  have V1 : Hid (VC ((w.alloc (.cells #[.int .i64 0, .int .i64 0] 23)).alloc (.cells #[.int .i64 (t + 1), .int .i64 b] 23)) (w.heap.size + 1) (t + 1) b) := heap_alloc2_new _ _ _
  clear b1 b2
  by_cases hv : validB (t + 1) b = true
  · go_enter Try.func7, Try.ntmps7
    go_wp2_with (go_at_call 14; refine calls_same (hs.out _) ?_)
    refine (valid_any (t + 1) b _).mono ?_
    rintro e w1 ⟨rfl, hg⟩
    rw [hv]
    have g0 := hid_mk (V0.out.kept hg)
    have g1 := V1.out.kept hg
    have hb := HB.out.trans (hg.mono HB.out.size)
    clear hg HB V0 V1
    obtain ⟨x0, x1, x2, x3⟩ := g0.out.facts
    obtain ⟨x4, x5, x6, x7⟩ := g1.facts
    go_wp2_with fail
    refine retVal2 Try.results7 rfl rfl rfl (g0.out.set (t + 1) b) ⟨?_, ?_⟩
    · rw [mk_yes hv, hv]; rfl
    · exact (hb.setCell (Nat.le_refl _) _).setCell (Nat.le_refl _) _
  · have hv' := Bool.eq_false_iff.mpr hv
    clear hv
    go_enter Try.func7, Try.ntmps7
    go_wp2_with (go_at_call 14; refine calls_same (hs.out _) ?_)
    refine (valid_any (t + 1) b _).mono ?_
    rintro e w1 ⟨rfl, hg⟩
    rw [hv']
    have g0 := hid_mk (V0.out.kept hg)
    have g1 := V1.out.kept hg
    have hb := HB.out.trans (hg.mono HB.out.size)
    clear hg HB V0 V1
    obtain ⟨x0, x1, x2, x3⟩ := g0.out.facts
    obtain ⟨x4, x5, x6, x7⟩ := g1.facts
    go_wp2_with fail
    refine retVal2 Try.results7 rfl rfl rfl (g0.out.set 0 0) ⟨?_, ?_⟩
    · rw [mk_no hv', hv']; rfl
    · exact (hb.setCell (Nat.le_refl _) _).setCell (Nat.le_refl _) _
set_option maxHeartbeats 1000000 in
theorem next_any (v : Int) (w : World) :
    Calls Try.prog 11 #[.int .i64 v] w fun e w' => e = .returned (.tuple #[.int .i64 (nextV v), .bool (isLink v)]) ∧ w' = w := by
  have hs := hid_mk (fun w => split_any v w)
  by_cases h4 : v % 8 = 4
  · by_cases hn : nextB (v / 8) = true
    · have e1 : isLink v = true := by unfold isLink; simp [h4, hn]
      have e2 : nextV v = v / 8 := by unfold nextV; rw [if_pos e1]
      rw [e1, e2]
      rw [h4] at hs
      clear e1 e2 h4
      go_enter Try.func11, Try.ntmps11
      go_wp2_with (first | (go_at_call 14; refine calls_same (hs.out _) ?_) | (go_at_call 18; refine calls_same (isNext_any _ _) ?_))
      go_ret2
      exact ⟨rfl, rfl⟩
    · have hn' := Bool.eq_false_iff.mpr hn
      have e1 : isLink v = false := by unfold isLink; simp [hn']
      have e2 : nextV v = 0 := by unfold nextV; rw [e1]; rfl
      rw [e1, e2]
      rw [h4] at hs
      clear e1 e2 h4 hn
      go_enter Try.func11, Try.ntmps11
      go_wp2_with (first | (go_at_call 14; refine calls_same (hs.out _) ?_) | (go_at_call 18; refine calls_same (isNext_any _ _) ?_))
      go_ret2
      exact ⟨rfl, rfl⟩
  · have e1 : isLink v = false := by unfold isLink; simp [h4]
    have e2 : nextV v = 0 := by unfold nextV; rw [e1]; rfl
    rw [e1, e2]
    have h4' : (v % 8 != 4) = true := by simpa using h4
    clear e1 e2 h4
    go_enter Try.func11, Try.ntmps11
    go_wp2_with (first | (go_at_call 14; refine calls_same (hs.out _) ?_) | (go_at_call 18; refine calls_same (isNext_any _ _) ?_))
    go_ret2
    exact ⟨rfl, rfl⟩
end Go.Proofs.Ytghgpnadikjblab
