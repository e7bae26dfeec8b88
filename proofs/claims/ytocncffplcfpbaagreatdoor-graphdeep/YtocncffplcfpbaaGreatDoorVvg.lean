/- value: what is made -/
import Derived.Test.YtocncffplcfpbaaGreatDoorYcg
import Derived.Laws.ResultCell
import Derived.Laws.Rows
namespace Go.Proofs.YtocncffplcfpbaaGreatDoor
open Go.RowKit
set_option linter.unusedVariables false
set_option linter.unusedSimpArgs false

/-- the Kind and the N of what is made -/
def mkK_v (k n : Int) : Int := if validB_v k n = true then k else 0
def mkN_v (k n : Int) : Int := if validB_v k n = true then n else 0
theorem mk_yes_v {k n : Int} (h : validB_v k n = true) : val_v k n = .agg #[.int .i64 (mkK_v k n), .int .i64 (mkN_v k n)] := by unfold mkK_v mkN_v val_v; rw [if_pos h, if_pos h]
theorem mk_no_v {k n : Int} (h : validB_v k n = false) : val_v 0 0 = .agg #[.int .i64 (mkK_v k n), .int .i64 (mkN_v k n)] := by
  unfold mkK_v mkN_v val_v; rw [h]; rfl
set_option maxHeartbeats 1000000 in
theorem made_any_v (k n : Int) (w : World) :
    Calls Tryz.prog 64 #[.int .i64 k, .int .i64 n] w fun e w' => e = .returned (.agg #[.int .i64 (mkK_v k n), .int .i64 (mkN_v k n)]) ∧ Below w.heap.size w w' := by
  have b1 : Below w.heap.size w (w.alloc (.cells #[.int .i64 0, .int .i64 0] 28)) := (Below.refl _ _).alloc (Nat.le_refl _) _
  have b2 := b1.alloc b1.size (.cells #[.int .i64 k, .int .i64 n] 28)
  have HB := hid_mk b2
  have V0 := hid_mk ((VC_v.new w 0 0).alloc (.cells #[.int .i64 k, .int .i64 n] 28))
  have V1 : Hid (VC_v ((w.alloc (.cells #[.int .i64 0, .int .i64 0] 28)).alloc (.cells #[.int .i64 k, .int .i64 n] 28)) (w.heap.size + 1) k n) := heap_alloc2_new _ _ _
  clear b1 b2
  by_cases hv : validB_v k n = true
  · go_enter Tryz.func64, Tryz.ntmps64
    go_wp2_with fail
    refine (valid_any_v k n _).mono ?_
    rintro e w1 ⟨rfl, hg⟩
    rw [hv]
    have g0 := hid_mk (V0.out.kept hg)
    have g1 := V1.out.kept hg
    have hb := HB.out.trans (hg.mono HB.out.size)
    clear hg HB V0 V1
    obtain ⟨x0, x1, x2, x3⟩ := g0.out.facts
    obtain ⟨x4, x5, x6, x7⟩ := g1.facts
    go_wp2_with fail
    refine retVal_v Tryz.results64 rfl rfl (g0.out.set k n) ⟨?_, ?_⟩
    · exact ret_val_v (mk_yes_v hv)
    · exact (hb.setCell (Nat.le_refl _) _).setCell (Nat.le_refl _) _
  · have hv' := Bool.eq_false_iff.mpr hv
    clear hv
    go_enter Tryz.func64, Tryz.ntmps64
    go_wp2_with fail
    refine (valid_any_v k n _).mono ?_
    rintro e w1 ⟨rfl, hg⟩
    rw [hv']
    have g0 := hid_mk (V0.out.kept hg)
    have g1 := V1.out.kept hg
    have hb := HB.out.trans (hg.mono HB.out.size)
    clear hg HB V0 V1
    obtain ⟨x0, x1, x2, x3⟩ := g0.out.facts
    obtain ⟨x4, x5, x6, x7⟩ := g1.facts
    go_wp2_with fail
    refine retVal_v Tryz.results64 rfl rfl (g0.out.set 0 0) ⟨?_, ?_⟩
    · exact ret_val_v (mk_no_v hv')
    · exact (hb.setCell (Nat.le_refl _) _).setCell (Nat.le_refl _) _

theorem imm_any_v (n : Int) (w : World) : Calls Tryz.prog 44 #[.int .i64 n] w fun e w' => e = .returned (.agg #[.int .i64 (mkK_v 3 n), .int .i64 (mkN_v 3 n)]) ∧ Below w.heap.size w w' := by
  have b1 : Below w.heap.size w (w.alloc (.cells #[.int .i64 0, .int .i64 0] 28)) := (Below.refl _ _).alloc (Nat.le_refl _) _
  have V0 := hid_mk (VC_v.new w 0 0)
  go_enter Tryz.func44, Tryz.ntmps44
  go_wp2_with fail
  refine (made_any_v _ _ _).mono ?_
  rintro e w1 ⟨rfl, hg⟩
  have g0 := hid_mk (V0.out.kept hg)
  have hb := b1.trans (hg.mono b1.size)
  clear hg b1 V0
  obtain ⟨x0, x1, x2, x3⟩ := g0.out.facts
  go_wp2_with fail
  exact retVal_v Tryz.results44 rfl rfl (g0.out.set _ _) ⟨rfl, (hb.setCell (Nat.le_refl _) _).setCell (Nat.le_refl _) _⟩
end Go.Proofs.YtocncffplcfpbaaGreatDoor
