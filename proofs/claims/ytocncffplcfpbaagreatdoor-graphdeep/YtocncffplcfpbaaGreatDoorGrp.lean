/- slices.SortedFunc of the keys of a nil map -/
import Derived.Test.YtocncffplcfpbaaGreatDoorGro
namespace Go.Proofs.YtocncffplcfpbaaGreatDoor
open Go.RowKit Go.MapKept
attribute [local go_sem] Oper.semAt_some
set_option linter.unusedVariables false
set_option linter.unusedSimpArgs false

set_option maxHeartbeats 2000000 in
theorem keysV_nil (w : World) :
    Calls Tryz.prog 48 #[.map none] w fun e w' => e = .returned (.func (.func 67) #[] #[.pointer (some ⟨w.heap.size, 0, none⟩)]) ∧ w' = w.alloc (.cells #[.map none] 92) := by
  have h1 := hmf
  go_enter Tryz.func48, Tryz.ntmps48
  go_wp2
  go_ret
  exact ⟨rfl, rfl⟩
set_option maxHeartbeats 2000000 in
theorem keysV_none {W : World} {g : Nat} {y : Value} (hg : Bl W g #[.map none] 92) :
    Calls Tryz.prog 67 #[y, .pointer (some ⟨g, 0, none⟩)] W fun e w' => (∃ v, e = .returned v) ∧ Out 0 0 W w' := by
  have c0 := hg.cell (i := 0) rfl
  have hrn := range_nil
  have hnx := next_nil (w := W.alloc (.mapIter none 0 #[] 0)) (r := W.heap.size) (MapKept.heap_alloc W _).1
  go_enter Tryz.func67, Tryz.ntmps67
  go_wp2
  refine wp_loop_once ?_
  go_wp2
  exact bodyPost_end (results_none Tryz.results67 _ _ _) rfl ⟨⟨_, rfl⟩, (Out.refl 0 0 W).alloc _⟩
set_option maxRecDepth 100000 in
set_option maxHeartbeats 4000000 in
theorem appseqV_none {W : World} {g : Nat} (hg : Bl W g #[.map none] 92) :
    Calls Tryz.prog 83 #[.slice none 0 0, .func (.func 67) #[] #[.pointer (some ⟨g, 0, none⟩)]] W fun e w' => e = .returned (.slice none 0 0) ∧ Out 0 0 W w' := by
  have HG := hid_mk hg
  clear hg
  refine (callsIn_wide (n := 0)).1 ?_
  refine callsIn_of_wp_marks Tryz.func83 rfl trivial ?_ rfl
  simp only [Tryz.ntmps83, List.size_toArray, List.length_cons, List.length_nil, Nat.reduceAdd, Nat.reduceSub, Array.replicate_succ, Array.replicate_zero, List.push_toArray, List.append_toArray, List.nil_append, List.cons_append]
  gi_wp2_with fail
  refine wpIn_named (fun W1 hW1 => ?_)
  obtain ⟨s, hs⟩ : ∃ s, W.heap.size = s := ⟨_, rfl⟩
  have o1 : Out 0 0 W W1 := by rw [hW1]; exact (Out.refl 0 0 W).alloc _
  have b1 : Bl W1 s #[.slice none 0 0] 24 := by rw [hW1, ← hs]; exact Bl.new _ _ _
  have hs1 : W1.heap.size = s + 1 := by rw [hW1, size_alloc, hs]
  rw [hs]
  have H1 := hid_mk (And.intro o1 (And.intro b1 (And.intro hs1 hs)))
  clear hW1 o1 b1 hs1 hs
  refine range_any (gf := 67) (lb := #[.pointer (some ⟨g, 0, none⟩)]) rfl (enters_of Tryz.func67 (by kernel_rfl) rfl) (fun w => Out 0 0 W1 w) (fun _ _ => False) ?H ?done (fun _ _ _ h _ _ => h.elim)
  case H =>
    intro rec hrec W6 hW6
    have o6 : Out 0 0 W1 W6 := by rw [hW6]; exact ((Out.refl _ _ _).alloc _).alloc _
    have d6 : W6.heap[W1.heap.size]? = some (.deferred (some [])) := by rw [hW6, heap_alloc_old _ _ (by rw [size_alloc]; omega)]; exact heap_alloc_new _ _
    have l6 : W6.heap[W1.heap.size + 1]? = some (.loop (rec .ready none)) := by rw [hW6, ← size_alloc W1 (.deferred (some []))]; exact heap_alloc_new _ _
    refine (keysV_none (HG.out.kept (H1.out.1.trans o6) (.inr (Nat.zero_le _)))).mono ?_
    rintro e w7 ⟨hv7, o7⟩
    exact ⟨hv7, o7.heap d6 (.inr (Nat.zero_le _)), .inl ⟨o6.trans o7, o7.heap l6 (.inr (Nat.zero_le _))⟩⟩
  case done =>
    intro W6 W7 o6 o7 d7
    obtain ⟨o1, b1, hs1, hs⟩ := H1.out
    have o67 : Out 0 0 W1 W7 := o6.past o7 (Nat.le_succ _)
    have b7 := b1.kept o67 (.inr (Nat.zero_le _))
    have e0 := b7.cell (i := 0) rfl
    have HE := hid_mk (And.intro (o1.trans o67) (And.intro d7 (And.intro hs1 hs)))
    clear o6 o7 d7 o1 b1 hs1 hs o67 b7 H1
    gi_wp2
    obtain ⟨x7, d7, hs1, hs⟩ := HE.out
    refine ⟨by simp, .inl ⟨_, _, rfl, run_takeDeferred d7, ?_⟩⟩
    exact ⟨_, results_tmp Tryz.results83 _ _ _, rfl, x7.past (out_putObj W7 W1.heap.size (.deferred none)) (by omega)⟩
set_option maxRecDepth 100000 in
set_option maxHeartbeats 4000000 in
theorem len64_zero (w : World) : Calls Tryz.prog 78 #[.int .u64 0] w fun e w' => (∃ v, e = .returned (.int .i64 v)) ∧ w' = w := by
  go_enter Tryz.func78, Tryz.ntmps78
  go_wp2
  go_ret
  exact ⟨⟨_, rfl⟩, rfl⟩
theorem len_zero (w : World) : Calls Tryz.prog 52 #[.int .u64 0] w fun e w' => (∃ v, e = .returned (.int .i64 v)) ∧ w' = w := by
  go_enter Tryz.func52, Tryz.ntmps52
  go_wp2_with fail
  refine (len64_zero _).mono ?_
  rintro e w1 ⟨⟨v, rfl⟩, rfl⟩
  go_wp2_with fail
  go_ret
  exact ⟨⟨_, rfl⟩, rfl⟩
set_option maxHeartbeats 4000000 in
theorem insertionV_zero (w : World) (cf : Value) : Calls Tryz.prog 91 #[.slice none 0 0, .int .i64 0, .int .i64 0, cf] w fun e w' => e = .returned (.tuple #[]) ∧ w' = w := by
  go_enter Tryz.func91, Tryz.ntmps91
  go_wp2_with fail
  refine wp_loop_once ?_
  go_wp2_with fail
  exact bodyPost_end (results_none Tryz.results91 _ _ _) rfl ⟨rfl, rfl⟩
set_option maxRecDepth 100000 in
set_option maxHeartbeats 4000000 in
theorem pdqV_zero (w : World) (l : Int) (cf : FuncId) : Calls Tryz.prog 84 #[.slice none 0 0, .int .i64 0, .int .i64 0, .int .i64 l, .func (.func cf) #[] #[]] w fun e w' => e = .returned (.tuple #[]) ∧ w' = w := by
  go_enter Tryz.func84, Tryz.ntmps84
  go_wp2_with fail
  refine wp_loop_once ?_
  go_wp2_with (go_at_call 91; refine calls_same (insertionV_zero _ _) ?_)
  exact bodyPost_ret (results_none Tryz.results84 _ _ _) rfl ⟨rfl, rfl⟩
theorem sortV_zero (w : World) (cf : FuncId) : Calls Tryz.prog 66 #[.slice none 0 0, .func (.func cf) #[] #[]] w fun e w' => e = .returned (.tuple #[]) ∧ w' = w := by
  go_enter Tryz.func66, Tryz.ntmps66
  go_wp2_with fail
  refine (len_zero _).mono ?_
  rintro e w1 ⟨⟨v, rfl⟩, rfl⟩
  go_wp2_with (go_at_call 84; refine calls_same (pdqV_zero _ _ _) ?_)
  exact bodyPost_end (results_none Tryz.results66 _ _ _) rfl ⟨rfl, rfl⟩
theorem sortedV_zero {W : World} {g : Nat} (hg : Bl W g #[.map none] 92) (cf : FuncId) :
    Calls Tryz.prog 47 #[.func (.func 67) #[] #[.pointer (some ⟨g, 0, none⟩)], .func (.func cf) #[] #[]] W fun e w' => e = .returned (.slice none 0 0) ∧ Out 0 0 W w' := by
  have HC : Hid (Calls Tryz.prog 65 #[.func (.func 67) #[] #[.pointer (some ⟨g, 0, none⟩)]] W fun e w' => e = .returned (.slice none 0 0) ∧ Out 0 0 W w') := by
    have H := hid_mk (appseqV_none hg)
    clear hg
    refine hid_mk ?_
    go_enter Tryz.func65, Tryz.ntmps65
    go_wp2_with fail
    refine H.out.mono ?_
    rintro e w1 ⟨rfl, hQ⟩
    clear H
    go_wp2_with fail
    go_ret
    exact ⟨rfl, hQ⟩
  clear hg
  go_enter Tryz.func47, Tryz.ntmps47
  go_wp2_with fail
  refine HC.out.mono ?_
  rintro e w1 ⟨rfl, hQ⟩
  have HQ := hid_mk hQ
  clear HC hQ
  go_wp2_with (go_at_call 66; refine calls_same (sortV_zero _ _) ?_)
  go_ret
  exact ⟨rfl, HQ.out⟩
end Go.Proofs.YtocncffplcfpbaaGreatDoor
