/- package show: what the walk's stack keeps -/
import Derived.Test.YtmfnkhonghemeaaDoorIig
import Derived.Test.YtmfnkhonghemeaaDoorIif
namespace Go.Proofs.YtmfnkhonghemeaaDoor
open Go.RowKit
set_option linter.unusedVariables false
set_option linter.unusedSimpArgs false

/-- a loop, its rounds counted down -/
theorem wpIn_loop_ix {F : Fence} {n : Nat} {P : Program} {Q : Exit → Act → World → Prop} {a : Act} {w : World} {c : Code} (I : Nat → Act → World → Prop) (r0 : Nat) (h0 : I r0 a w)
    (round : ∀ r a w, I r a w → c.wpIn F n P (Exit.then (fun a' w' => ∃ r', r' < r ∧ I r' a' w') Q) a w) : (Code.loop c).wpIn F n P Q a w := by
  refine wpIn_loop_rounds (r0 + 1) ?_
  have key : ∀ m r a w, r < m → I r a w → Code.roundsIn F n P c Q m a w := by
    intro m
    induction m with
    | zero => intro r a w h _; omega
    | succ m ih =>
      intro r a w hr hI
      rw [roundsIn_succ]
      refine wpIn_mono (round r a w hI) ?_
      intro e a' w' he
      cases e with
      | normal => obtain ⟨r', h1, h2⟩ := he; exact ih r' a' w' (by omega) h2
      | exit id => exact he
      | goto l => exact he
      | ret => exact he
      | panic ch => exact he
      | outgrown => exact he
  exact key _ _ _ _ (Nat.lt_succ_self _) h0
/-- marks among the deferred calls -/
def marks (Ds : List Nat) : List Deferred := Ds.map fun D => { target := .collected D, args := #[] }
theorem leaves_marks {F : Fence} {n : Nat} {P : Program} {fn : Func} {tmps : Array Value} {R : Ending → World → Prop} {u : FrameMode} (hu : u ≠ .run) : ∀ (Ds : List Nat) (w : World), (∀ D ∈ Ds, w.heap[D]? = some (.deferred (some []))) → Ds.Nodup →
    (∀ w', Fx (fun b => b ∈ Ds) w w' → LeavesIn F n P fn tmps R [] u w') → LeavesInM F n P fn tmps R (marks Ds) u w := by
  intro Ds
  induction Ds with
  | nil => intro w _ _ h; exact h w ⟨rfl, rfl, rfl, Nat.le_refl _, fun _ _ _ => rfl⟩
  | cons D Ds ih =>
    intro w hd hn h
    obtain ⟨hn1, hn2⟩ := List.nodup_cons.1 hn
    refine ⟨hu, .inl ⟨D, _, rfl, run_takeDeferred (hd D (List.mem_cons_self ..)), ?_⟩⟩
    have o := out_putObj w D (.deferred none)
    refine ih _ (fun D' hD' => o.heap (hd D' (List.mem_cons_of_mem _ hD')) ?_) hn2 (fun w' hf => h w' ?_)
    · have : D' ≠ D := fun e => hn1 (e ▸ hD')
      omega
    · exact (Fx.of_out o (fun b h1 h2 _ => by have : b = D := by omega
                                              rw [this]; exact List.mem_cons_self ..)).trans (hf.wide (fun b _ hb => List.mem_cons_of_mem _ hb))

/-- values, cell by cell -/
def flat (l : List (Int × Int)) : List Value := l.flatMap fun q => [.int .i64 q.1, .int .i64 q.2]
theorem flat_nil : flat [] = [] := rfl
theorem flat_cons (q : Int × Int) (l : List (Int × Int)) : flat (q :: l) = .int .i64 q.1 :: .int .i64 q.2 :: flat l := rfl
theorem flat_append (l m : List (Int × Int)) : flat (l ++ m) = flat l ++ flat m := by simp [flat]
theorem flat_length (l : List (Int × Int)) : (flat l).length = l.length * 2 := by
  induction l with
  | nil => rfl
  | cons q l ih => rw [flat_cons]; simp [ih]; omega
theorem flat_get {l : List (Int × Int)} : ∀ {i : Nat} {k x : Int}, l[i]? = some (k, x) → (flat l)[i * 2]? = some (.int .i64 k) ∧ (flat l)[i * 2 + 1]? = some (.int .i64 x) := by
  induction l with
  | nil => intro i k x h; simp at h
  | cons q l ih =>
    intro i k x h
    cases i with
    | zero => simp at h; subst h; exact ⟨rfl, rfl⟩
    | succ i =>
      have := ih (i := i) (k := k) (x := x) (by simpa using h)
      rw [show (i + 1) * 2 = i * 2 + 1 + 1 from by omega, flat_cons]
      simpa using this
/-- a list of values in a row of its own -/
def Stk (w : World) (B g cap : Nat) (l : List (Int × Int)) : Prop := w.ownsRow B 28 2 (.slice (some ⟨g, 0, none⟩) l.length cap) l.length (flat l)
section
variable {w w' : World} {B g cap : Nat} {l : List (Int × Int)}
theorem Stk.row (h : Stk w B g cap l) : ∃ cur : Array Value, B ≤ g ∧ w.heap[g]? = some (.cells cur 28 (0, 0)) ∧ l.length ≤ cap ∧ cap ≤ maxLen ∧ cur.size = cap * 2 ∧ cur.toList.take (l.length * 2) = flat l := by
  obtain ⟨_, h | ⟨g', cap', cur, e, h1, h2, h3, h4, h5, h6⟩⟩ := h
  · exact absurd h.1 (by simp)
  · simp at e
    obtain ⟨rfl, rfl⟩ := e
    exact ⟨cur, h1, h2, h3, h4, h5, h6⟩
theorem Stk.lt (h : Stk w B g cap l) : B ≤ g ∧ g < w.heap.size := by
  obtain ⟨cur, h1, h2, _⟩ := h.row
  exact ⟨h1, heap_lt h2⟩
theorem Stk.room (h : Stk w B g cap l) : l.length ≤ cap := by
  obtain ⟨cur, h1, h2, h3, _⟩ := h.row
  exact h3
theorem Stk.mk {cur : Array Value} (h1 : B ≤ g) (h2 : w.heap[g]? = some (.cells cur 28 (0, 0))) (h3 : l.length ≤ cap) (h4 : cap ≤ maxLen) (h5 : cur.size = cap * 2) (h6 : cur.toList.take (l.length * 2) = flat l) : Stk w B g cap l :=
  ⟨flat_length l, .inr ⟨g, cap, cur, rfl, h1, h2, h3, h4, h5, h6⟩⟩
theorem Stk.vals (h : Stk w B g cap l) : Vals w g l := by
  intro i k x hi
  obtain ⟨cur, h1, h2, h3, h4, h5, h6⟩ := h.row
  obtain ⟨e1, e2⟩ := flat_get hi
  have hl : i < l.length := (List.getElem?_eq_some_iff.1 hi).1
  rw [← h6, List.getElem?_take] at e1 e2
  rw [if_pos (by omega)] at e1 e2
  constructor
  · simp only [World.cell?, h2]; simpa using e1
  · simp only [World.cell?, h2]; simpa using e2
theorem Stk.cut {q : Int × Int} (h : Stk w B g cap (l ++ [q])) : Stk w B g cap l := by
  obtain ⟨cur, h1, h2, h3, h4, h5, h6⟩ := h.row
  have e : (l ++ [q]).length = l.length + 1 := by simp
  rw [e] at h3 h6
  refine Stk.mk h1 h2 (by omega) h4 h5 ?_
  have := congrArg (List.take (l.length * 2)) h6
  rw [List.take_take, Nat.min_eq_left (by omega), flat_append, List.take_append_of_le_length (by rw [flat_length]; omega)] at this
  exact this.trans (List.take_of_length_le (by rw [flat_length]; omega))
theorem Stk.fx {S : Nat → Prop} (h : Stk w B g cap l) (f : Fx S w w') (hg : ¬ S g) : Stk w' B g cap l := own_fx h f (fun b e => by simp [Value.ownBlock] at e; subst e; exact hg)
end
theorem info_val3 : (Tryd.prog.info? 28).map (fun i => (i.zero, i.size, i.bytes)) = some (some (.agg #[.int .i64 0, .int .i64 0]), 2, 16) := by kernel_rfl
set_option maxRecDepth 100000 in
/-- one value more -/
theorem Stk.push {w : World} {B g cap bb c : Nat} {l : List (Int × Int)} {k x : Int} (h : Stk w B g cap l) (hB : B ≤ w.heap.size) (hn : Bl w bb #[.int .i64 k, .int .i64 x] 28) (hl : l.length ≤ 1000) :
    ∃ (g' cap' : Nat) (w' : World), (Builtin.append_ #[24, 24] 24 #[.slice (some ⟨g, 0, none⟩) l.length cap, .slice (some ⟨bb, 0, none⟩) 1 c]).run Tryd.prog w = .ok (.slice (some ⟨g', 0, none⟩) (l.length + 1) cap') w' ∧ Stk w' B g' cap' (l ++ [(k, x)]) ∧ (w.heap.size ≤ g' ∨ g' = g) ∧ Fx (fun b => b = g) w w' := by
  obtain ⟨g', cap', w', h1, h2, h3, h4⟩ := app_own Tryd.underlying24 info_val3 rfl (by decide) h hB hn rfl (by intro u hu; simp at hu; rcases hu with rfl | rfl <;> rfl) hl (by decide)
  refine ⟨g', cap', w', h1, ?_, h3.imp id (fun e => by simp [Value.ownBlock] at e; exact e.symm), h4.wide (fun b _ e => by simp [Value.ownBlock] at e; exact e.symm)⟩
  have e : (l ++ [(k, x)]).length = l.length + 1 := by simp
  unfold Stk
  rw [e, flat_append]
  exact h2
end Go.Proofs.YtmfnkhonghemeaaDoor
