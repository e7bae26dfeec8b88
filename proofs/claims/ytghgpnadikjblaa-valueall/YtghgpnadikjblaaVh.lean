/- the laws' own parts -/
import Derived.Test.YtghgpnadikjblaaVg
import Derived.Deep.RegionHeld3
namespace Go.Proofs.Ytghgpnadikjblaa
open Go.ChangeShapes Go.WideShapes Go.ChangeAt Go.RowKit
set_option linter.unusedVariables false
set_option linter.unusedSimpArgs false

set_option maxHeartbeats 1000000 in
theorem alive_any (w : World) : Calls Try.prog 9 #[] w fun e w' => e = .returned (.bool true) ∧ Below w.heap.size w w' := by
  have b0 := Below.refl w.heap.size w
  have e1 : mkK 1 5 = 1 := by decide
  have e2 : mkN 1 5 = 5 := by decide
  have e3 : wordV 1 5 = 40 := by decide
  have e4 : validB 1 5 = true := by decide
  have hr := read_any 18
  have e5 : mkK (18 % 8 + 1) (18 / 8) = 3 := by decide
  have e6 : mkN (18 % 8 + 1) (18 / 8) = 2 := by decide
  have e7 : validB (18 % 8 + 1) (18 / 8) = true := by decide
  have e8 : linkV 0 = 4 := by decide
  rw [e5, e6, e7] at hr
  have HR := hid_mk hr
  clear hr e5 e6 e7
  have HF := hid_mk (fix_any 5)
  rw [e1, e2] at HF
  have HW := hid_mk (word_any 1 5)
  rw [e3, e4] at HW
  unfold val at HW
  clear e1 e2 e3 e4
  have HL := hid_mk (link_any 0)
  rw [e8] at HL
  clear e8
  go_enter Try.func9, Try.ntmps9
  go_wp2_with (first
    | (go_at_call 19; refine (calls_rel (HF.out _) (by assumption)).mono ?_; rintro e w1 ⟨rfl, hg⟩)
    | (go_at_call 18; refine (calls_rel (HW.out _) (by assumption)).mono ?_; rintro e w2 ⟨rfl, hg2⟩)
    | (go_at_call 20; refine (calls_rel (HR.out _) (by assumption)).mono ?_; rintro e w3 ⟨rfl, hg3⟩)
    | (go_at_call 15; refine calls_same (HL.out _) ?_))
  all_goals go_ret
  all_goals exact ⟨rfl, hg3.alloc hg3.size _⟩
set_option maxHeartbeats 1000000 in
theorem lawMade_any (n : Int) (w : World) : Calls Try.prog 10 #[.int .i64 n] w fun e w' => e = .returned (.bool true) ∧ Below w.heap.size w w' := by
  have b0 := Below.refl w.heap.size w
  go_enter Try.func10, Try.ntmps10
  go_wp2_with (first
    | (go_at_call 19; refine (calls_rel (fix_any _ _) (by assumption)).mono ?_; rintro e w1 ⟨rfl, hg⟩)
    | (go_at_call 22; refine (calls_rel (refr_any _ _) (by assumption)).mono ?_; rintro e w1 ⟨rfl, hg⟩)
    | (go_at_call 23; refine (calls_rel (imm_any _ _) (by assumption)).mono ?_; rintro e w1 ⟨rfl, hg⟩)
    | (go_at_call 24; refine (calls_rel (char_any _ _) (by assumption)).mono ?_; rintro e w1 ⟨rfl, hg⟩)
    | (go_at_call 21; refine (calls_rel (make_any _ _ _) (by assumption)).mono ?_; rintro e w1 ⟨rfl, hg⟩))
  all_goals go_ret
  all_goals exact ⟨rfl, hg⟩
/-- a callee that leaves a value's block as it was -/
theorem calls_held {f : FuncId} {args : Array Value} {v : Value} {w0 w : World} {g : Nat} {k n : Int} (h : Calls Try.prog f args w (fun e w' => e = .returned v ∧ Below w.heap.size w w')) (hS : w.cell? ⟨g, 0, none⟩ = some (.int .i64 k) ∧ w.cell? ⟨g, 1, none⟩ = some (.int .i64 n) ∧ VC w g k n ∧ Below w0.heap.size w0 w) :
    Calls Try.prog f args w (fun e w' => e = .returned v ∧ w'.cell? ⟨g, 0, none⟩ = some (.int .i64 k) ∧ w'.cell? ⟨g, 1, none⟩ = some (.int .i64 n) ∧ VC w' g k n ∧ Below w0.heap.size w0 w') :=
  by
  obtain ⟨_, _, hV, hb⟩ := hS
  exact h.mono fun _ _ ⟨he, hg⟩ => ⟨he, (hV.kept hg).facts.1, (hV.kept hg).facts.2.1, hV.kept hg, below_seq hb hg⟩
set_option maxHeartbeats 1000000 in
theorem lawTold_any (k n : Int) (w : World) : Calls Try.prog 11 #[val k n] w fun e w' => e = .returned (.bool true) ∧ Below w.heap.size w w' := by
  unfold val
  have b1 : Below w.heap.size w (w.alloc (.cells #[.int .i64 k, .int .i64 n] 25)) := (Below.refl _ _).alloc (Nat.le_refl _) _
  have V0 := VC.new w k n
  obtain ⟨x0, x1, x2, x3⟩ := V0.facts
  have hw := word_any k n
  have hrw := refWord_any k n
  have hv := valid_any k n
  have hrv := refValid_any k n
  unfold val at hw hrw hv hrv
  have HW := hid_mk hw
  have HRW := hid_mk hrw
  have HV := hid_mk hv
  have HRV := hid_mk hrv
  clear hw hrw hv hrv
  have H0 := hid_mk V0
  clear V0
  go_enter Try.func11, Try.ntmps11
  go_wp2_with fail
  refine (HW.out _).mono ?_
  rintro e w1 ⟨rfl, hg⟩
  have V1 := hid_mk (H0.out.kept hg)
  have b2 := b1.trans (hg.mono b1.size)
  clear hg b1 x0 x1 x2 x3 H0
  obtain ⟨x0, x1, x2, x3⟩ := V1.out.facts
  go_wp2_with fail
  refine (HRW.out _).mono ?_
  rintro e w2 ⟨rfl, hg⟩
  have V2 := hid_mk (V1.out.kept hg)
  have b3 := b2.trans (hg.mono b2.size)
  clear hg b2 x0 x1 x2 x3 V1
  obtain ⟨x0, x1, x2, x3⟩ := V2.out.facts
  have V2' := V2.out
  go_wp2_with fail
  go_region_held3 (fun w' => w'.cell? ⟨w.heap.size, 0, none⟩ = some (.int .i64 k) ∧ w'.cell? ⟨w.heap.size, 1, none⟩ = some (.int .i64 n) ∧ VC w' w.heap.size k n ∧ Below w.heap.size w w') (refine ⟨?_, ?_, ?_, ?_⟩ <;> first | assumption | (apply Below.drew; assumption))
    (first | (go_at_call 26; refine (calls_held (HV.out _) (by assumption)).mono ?_; rintro e w3 ⟨rfl, x4, x5, x6, x7⟩) | (go_at_call 27; refine (calls_held (HRV.out _) (by assumption)).mono ?_; rintro e w3 ⟨rfl, x4, x5, x6, x7⟩))
  all_goals go_wp2
  all_goals go_ret
  all_goals exact ⟨rfl, x7⟩
set_option maxHeartbeats 2000000 in
theorem lawRead_any (v : Int) (w : World) (h1 : -9223372036854775808 ≤ v) (h2 : v ≤ 9223372036854775807) : Calls Try.prog 12 #[.int .i64 v] w fun e w' => e = .returned (.bool true) ∧ Below w.heap.size w w' := by
  have hr := read_any v
  have hrr := fun w => refRead_any v w h1 h2
  have hn := next_any v
  have hrn := fun w => refNext_any v w h1 h2
  clear h1 h2
  generalize mkK (v % 8 + 1) (v / 8) = k at *
  generalize mkN (v % 8 + 1) (v / 8) = n at *
  generalize validB (v % 8 + 1) (v / 8) = b at *
  generalize nextV v = x at *
  generalize isLink v = c at *
  have HR := hid_mk hr
  have HRR := hid_mk hrr
  have HN := hid_mk hn
  have HRN := hid_mk hrn
  clear hr hrr hn hrn
  go_enter Try.func12, Try.ntmps12
  go_wp2_with fail
  refine (HR.out _).mono ?_
  rintro e w1 ⟨rfl, hg⟩
  have V0 := hid_mk (VC.new w1 k n)
  have b1 := hg.alloc hg.size (.cells #[.int .i64 k, .int .i64 n] 25)
  clear hg
  go_wp2_with fail
  refine (HRR.out _).mono ?_
  rintro e w2 ⟨rfl, hg⟩
  have V1 := hid_mk ((V0.out.kept hg).alloc (.cells #[.int .i64 k, .int .i64 n] 25))
  have V2 := hid_mk (VC.new w2 k n)
  have b2 := b1.trans (hg.mono b1.size)
  have b3 := b2.alloc b2.size (.cells #[.int .i64 k, .int .i64 n] 25)
  clear hg b1 b2
  obtain ⟨x0, x1, x2, x3⟩ := V1.out.facts
  obtain ⟨x4, x5, x6, x7⟩ := V2.out.facts
  go_wp2_with (first | (go_at_call 29; refine calls_same (HN.out _) ?_) | (go_at_call 30; refine calls_same (HRN.out _) ?_))
  all_goals go_ret
  all_goals exact ⟨rfl, b3⟩
end Go.Proofs.Ytghgpnadikjblaa
