/- hash: the laws -/
import Derived.Test.YtjboogfbdgbfbaaOc
namespace Go.Proofs.Ytjboogfbdgbfbaa
open Go.ChangeShapes Go.WideShapes Go.ChangeAt Go.RowKit Go.Deep
set_option linter.unusedVariables false
set_option linter.unusedSimpArgs false

theorem calls_rel {P : Program} {f : FuncId} {args : Array Value} {w w0 : World} {post : Ending → Prop} (h : Calls P f args w (fun e w' => post e ∧ Below w.heap.size w w')) (h0 : Below w0.heap.size w0 w) :
    Calls P f args w (fun e w' => post e ∧ Below w0.heap.size w0 w') := h.mono fun _ _ ⟨he, hb⟩ => ⟨he, below_seq h0 hb⟩
theorem slot_13 : slotV 13 8 = 5 := by decide
theorem heads_256 : headsV 256 = 512 := by decide
theorem grows_84 : growsB 8 4 = true := by decide
theorem grows_74 : growsB 7 4 = false := by decide
set_option maxHeartbeats 2000000 in
theorem alive_any (w : World) : Calls Try.prog 9 #[] w fun e w' => e = .returned (.bool true) ∧ Below w.heap.size w w' := by
  have S := hid_mk (slot_any 13 8)
  have H := hid_mk (heads_any 256)
  have G := hid_mk (grows_any 8 4)
  have G' := hid_mk (grows_any 7 4)
  obtain ⟨o, O, RO⟩ : ∃ o : Int, Hid (∀ w, Calls Try.prog 8 #[.agg #[.int .i64 1, .int .i64 1], .int .i64 0] w fun e w' => e = .returned (.int .i64 o) ∧ Below w.heap.size w w') ∧ Hid (∀ w, Calls Try.prog 10 #[.agg #[.int .i64 1, .int .i64 1], .int .i64 0] w fun e w' => e = .returned (.int .i64 o) ∧ Below w.heap.size w w') :=
    ⟨_, hid_mk (of_any 1 1 0), hid_mk (refOf_any 1 1 0)⟩
  rw [slot_13] at S
  rw [heads_256] at H
  rw [grows_84] at G
  rw [grows_74] at G'
  have hB := Below.refl w.heap.size w
  go_enter Try.func9, Try.ntmps9
  go_wp2_with fail
  refine calls_same (S.out _) ?_
  go_wp2_with fail
  refine calls_same (H.out _) ?_
  go_wp2_with fail
  refine calls_same (G.out _) ?_
  go_wp2_with fail
  refine calls_same (G'.out _) ?_
  go_wp2_with fail
  refine (calls_rel (O.out _) (by assumption)).mono ?_
  rintro e w1 ⟨rfl, hg⟩
  go_wp2_with fail
  refine (calls_rel (RO.out _) (by assumption)).mono ?_
  rintro e w2 ⟨rfl, hg2⟩
  go_wp2
  go_ret
  exact ⟨rfl, hg2⟩

def AC (W : World) (g : Nat) (k n s h c d : Int) : Prop := W.heap[g]? = some (.cells #[.int .i64 k, .int .i64 n, .int .i64 s, .int .i64 h, .int .i64 c, .int .i64 d] 25 (0, 0))
theorem AC.kept {W W' : World} {g : Nat} {k n s h c d : Int} (H : AC W g k n s h c d) (hb : Below W.heap.size W W') : AC W' g k n s h c d := by
  unfold AC at *
  rw [← H]; exact hb.block g (Array.getElem?_eq_some_iff.1 H).1
theorem AC.facts {W : World} {g : Nat} {k n s h c d : Int} (H : AC W g k n s h c d) : W.cell? ⟨g, 0, none⟩ = some (.int .i64 k) ∧ W.cell? ⟨g, 1, none⟩ = some (.int .i64 n) ∧ W.cell? ⟨g, 2, none⟩ = some (.int .i64 s) ∧ W.cell? ⟨g, 3, none⟩ = some (.int .i64 h) ∧ W.cell? ⟨g, 4, none⟩ = some (.int .i64 c) ∧ W.cell? ⟨g, 5, none⟩ = some (.int .i64 d) := by
  unfold AC at H
  simp [World.cell?, H]
theorem AC.new (W : World) (k n s h c d : Int) : AC (W.alloc (.cells #[.int .i64 k, .int .i64 n, .int .i64 s, .int .i64 h, .int .i64 c, .int .i64 d] 25)) W.heap.size k n s h c d := heap_alloc_new _ _
theorem slot_neg {h c : Int} (q : slotV h c < 0) : slotV h c = -1 := by
  unfold slotV at *
  split
  · rename_i b
    rw [if_pos b] at q
    have := cap_pos (of_decide_eq_true b)
    have := Int.emod_nonneg h (show c ≠ 0 by omega)
    omega
  · rfl
theorem slot_pos {h c : Int} (q : ¬slotV h c < 0) : slotV h c < c ∧ slotV (slotV h c) c = slotV h c ∧ slotV (bits .xor .i64 h c) c = slotV h c := by
  have b : capB c = true := by
    unfold slotV at q
    split at q
    · assumption
    · omega
  have hc : Cap c := of_decide_eq_true b
  have r := cap_pos hc
  have l := Int.emod_lt_of_pos h (show 0 < c by omega)
  unfold slotV
  rw [b]
  simp only [if_true]
  exact ⟨l, Int.emod_emod_of_dvd h (Int.dvd_refl c), xor_cap hc h⟩
set_option maxHeartbeats 2000000 in
theorem lawSlots_any (k n s h c d : Int) (w : World) : Calls Try.prog 4 #[.agg #[.int .i64 k, .int .i64 n, .int .i64 s, .int .i64 h, .int .i64 c, .int .i64 d]] w fun e w' => e = .returned (.bool true) ∧ Below w.heap.size w w' := by
  have b1 : Below w.heap.size w (w.alloc (.cells #[.int .i64 k, .int .i64 n, .int .i64 s, .int .i64 h, .int .i64 c, .int .i64 d] 25)) := (Below.refl _ _).alloc (Nat.le_refl _) _
  have A := AC.new w k n s h c d
  obtain ⟨c0, c1, c2, c3, c4, c5⟩ := A.facts
  have S := hid_mk (slot_any h d)
  have RS := hid_mk (refSlot_any h d)
  by_cases q : slotV h d < 0
  · have e := slot_neg q
    rw [e] at S RS
    clear e q
    go_enter Try.func4, Try.ntmps4
    go_wp2_with (first
      | (go_at_call 11; refine calls_same (S.out _) ?_)
      | fail)
    refine (alive_any _).mono ?_
    rintro e w1 ⟨rfl, hg⟩
    have b2 := below_seq b1 hg
    have A2 := A.kept hg
    clear hg A b1 c0 c1 c2 c3 c4 c5
    obtain ⟨c0, c1, c2, c3, c4, c5⟩ := A2.facts
    go_wp2_with (first
      | (go_at_call 12; refine calls_same (RS.out _) ?_))
    go_ret
    exact ⟨rfl, b2⟩
  · obtain ⟨e1, e2, e3⟩ := slot_pos q
    have S2 := hid_mk (slot_any (slotV h d) d)
    have S3 := hid_mk (slot_any (bits .xor .i64 h d) d)
    rw [e2] at S2
    rw [e3] at S3
    clear e2 e3
    generalize slotV h d = z at *
    go_enter Try.func4, Try.ntmps4
    go_wp2_with (first
      | (go_at_call 11; refine calls_same (S.out _) ?_)
      | fail)
    refine (alive_any _).mono ?_
    rintro e w1 ⟨rfl, hg⟩
    have b2 := below_seq b1 hg
    have A2 := A.kept hg
    clear hg A b1 c0 c1 c2 c3 c4 c5
    obtain ⟨c0, c1, c2, c3, c4, c5⟩ := A2.facts
    go_wp2_with (go_at_call 12; refine calls_same (RS.out _) ?_)
    refine calls_same (S2.out _) ?_
    go_wp2_with fail
    refine calls_same (S3.out _) ?_
    go_wp2
    go_ret
    exact ⟨rfl, b2⟩
theorem calls_heldA {f : FuncId} {args : Array Value} {v : Value} {w0 w : World} {g : Nat} {k n s h c d : Int} (H : Calls Try.prog f args w (fun e w' => e = .returned v ∧ Below w.heap.size w w'))
    (hS : w.cell? ⟨g, 0, none⟩ = some (.int .i64 k) ∧ w.cell? ⟨g, 1, none⟩ = some (.int .i64 n) ∧ w.cell? ⟨g, 2, none⟩ = some (.int .i64 s) ∧ w.cell? ⟨g, 3, none⟩ = some (.int .i64 h) ∧ w.cell? ⟨g, 4, none⟩ = some (.int .i64 c) ∧ w.cell? ⟨g, 5, none⟩ = some (.int .i64 d) ∧ AC w g k n s h c d ∧ Below w0.heap.size w0 w) :
    Calls Try.prog f args w (fun e w' => e = .returned v ∧ w'.cell? ⟨g, 0, none⟩ = some (.int .i64 k) ∧ w'.cell? ⟨g, 1, none⟩ = some (.int .i64 n) ∧ w'.cell? ⟨g, 2, none⟩ = some (.int .i64 s) ∧ w'.cell? ⟨g, 3, none⟩ = some (.int .i64 h) ∧ w'.cell? ⟨g, 4, none⟩ = some (.int .i64 c) ∧ w'.cell? ⟨g, 5, none⟩ = some (.int .i64 d) ∧ AC w' g k n s h c d ∧ Below w0.heap.size w0 w') := by
  obtain ⟨_, _, _, _, _, _, hV, hb⟩ := hS
  exact H.mono fun _ _ ⟨he, hg⟩ => ⟨he, (hV.kept hg).facts.1, (hV.kept hg).facts.2.1, (hV.kept hg).facts.2.2.1, (hV.kept hg).facts.2.2.2.1, (hV.kept hg).facts.2.2.2.2.1, (hV.kept hg).facts.2.2.2.2.2, hV.kept hg, below_seq hb hg⟩
theorem calls_below {P : Program} {f : FuncId} {args : Array Value} {w : World} {v : Value} (h : Calls P f args w (fun e w' => e = .returned v ∧ w' = w)) : Calls P f args w (fun e w' => e = .returned v ∧ Below w.heap.size w w') :=
  h.mono (by rintro e w' ⟨rfl, rfl⟩; exact ⟨rfl, Below.refl _ _⟩)
set_option maxHeartbeats 4000000 in
theorem lawGrows_any (k n s h c d : Int) (w : World) : Calls Try.prog 5 #[.agg #[.int .i64 k, .int .i64 n, .int .i64 s, .int .i64 h, .int .i64 c, .int .i64 d]] w fun e w' => e = .returned (.bool true) ∧ Below w.heap.size w w' := by
  have b1 : Below w.heap.size w (w.alloc (.cells #[.int .i64 k, .int .i64 n, .int .i64 s, .int .i64 h, .int .i64 c, .int .i64 d] 25)) := (Below.refl _ _).alloc (Nat.le_refl _) _
  have A := AC.new w k n s h c d
  have HH := hid_mk (heads_any d)
  have RH := hid_mk (refHeads_any d)
  have G := hid_mk (grows_any c d)
  have RG := hid_mk (refGrows_any c d)
  generalize headsV d = z at *
  generalize growsB c d = g at *
  obtain ⟨c0, c1, c2, c3, c4, c5⟩ := A.facts
  go_enter Try.func5, Try.ntmps5
  go_wp2_with fail
  go_region_held3 (fun w' => w'.cell? ⟨w.heap.size, 0, none⟩ = some (.int .i64 k) ∧ w'.cell? ⟨w.heap.size, 1, none⟩ = some (.int .i64 n) ∧ w'.cell? ⟨w.heap.size, 2, none⟩ = some (.int .i64 s) ∧ w'.cell? ⟨w.heap.size, 3, none⟩ = some (.int .i64 h) ∧ w'.cell? ⟨w.heap.size, 4, none⟩ = some (.int .i64 c) ∧ w'.cell? ⟨w.heap.size, 5, none⟩ = some (.int .i64 d) ∧ AC w' w.heap.size k n s h c d ∧ Below w.heap.size w w') (refine ⟨?_, ?_, ?_, ?_, ?_, ?_, ?_, ?_⟩ <;> first | assumption | (apply Below.drew; assumption))
    (first
    | (go_at_call 9; refine (calls_heldA (alive_any _) (by assumption)).mono ?_; rintro e w3 ⟨rfl, y0, y1, y2, y3, y4, y5, y6, y7⟩)
    | (go_at_call 13; refine (calls_heldA (calls_below (HH.out _)) (by assumption)).mono ?_; rintro e w3 ⟨rfl, y0, y1, y2, y3, y4, y5, y6, y7⟩)
    | (go_at_call 14; refine (calls_heldA (calls_below (RH.out _)) (by assumption)).mono ?_; rintro e w3 ⟨rfl, y0, y1, y2, y3, y4, y5, y6, y7⟩)
    | (go_at_call 15; refine (calls_heldA (calls_below (G.out _)) (by assumption)).mono ?_; rintro e w3 ⟨rfl, y0, y1, y2, y3, y4, y5, y6, y7⟩)
    | (go_at_call 16; refine (calls_heldA (calls_below (RG.out _)) (by assumption)).mono ?_; rintro e w3 ⟨rfl, y0, y1, y2, y3, y4, y5, y6, y7⟩))
  all_goals go_wp2
  all_goals go_ret
  all_goals exact ⟨rfl, by assumption⟩
end Go.Proofs.Ytjboogfbdgbfbaa
