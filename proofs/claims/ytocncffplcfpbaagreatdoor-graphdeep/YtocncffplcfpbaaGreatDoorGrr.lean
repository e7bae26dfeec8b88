/- ranges over functions, in the words of Out -/
import Derived.Test.YtocncffplcfpbaaGreatDoorGrl
import Derived.RangeFuncNested
import Derived.RangeFuncBound
import Derived.RangeFuncCalls
import Derived.RangeFuncLeaves
import Derived.Shelf.Abstract
import Derived.Shelf.RegionOpen
import Derived.OwnWalkIn
import Derived.TacticsInMore
import Derived.LoopNIn
import Derived.LoopIn
namespace Go.Proofs.YtocncffplcfpbaaGreatDoor
open Go.RowKit
set_option linter.unusedVariables false
set_option linter.unusedSimpArgs false

theorem out_putObj (W : World) (l : Nat) (o : Obj) : Out l (l + 1) W (W.putObj l o) :=
  ⟨rfl, rfl, rfl, by simp, fun k _ h2 => World.putObj_heap_other (by omega)⟩
/-- the record of a loop at the world w: what it bears besides its state and its pending jump -/
def RecOf (a : Act) (ps : Array Tmp) (assign body : Code) (D : Nat) (rec : LoopState → Option Code → Loop) : Prop :=
  ∃ fn, rec = fun st pe => { state := st, pending := pe, fn, tmps := a.tmps, params := ps, assign, body, defers := D }
/-- a statement 'for .. := range g': the iterator is called with yield; behind it all have come (K), or a round has left (Kx) -/
theorem range_any {P : Program} {g : Operand} {ps : Array Tmp} {assign body : Code} {Q : Exit → Act → World → Prop} {a : Act} {w : World} {gf : Nat} {lb : Array Value}
    (hg : a.eval g = .func (.func gf) #[] lb) (eg : ∀ args w, (callFunc gf args).run P w = .ok (.enter gf args) w) (K : World → Prop) (Kx : Code → World → Prop)
    (H : ∀ rec, RecOf a ps assign body w.heap.size rec → ∀ W1, W1 = (w.alloc (.deferred (some []))).alloc (.loop (rec .ready none)) →
      Calls P gf (#[.func (.yield (w.heap.size + 1)) #[] #[]] ++ lb) W1 fun e W => (∃ v, e = .returned v) ∧ W.heap[w.heap.size]? = some (.deferred (some [])) ∧
        ((K W ∧ W.heap[w.heap.size + 1]? = some (.loop (rec .ready none))) ∨ ∃ c, Kx c W ∧ W.heap[w.heap.size + 1]? = some (.loop (rec .done (some c)))))
    (hdone : ∀ W W', K W → Out (w.heap.size + 1) (w.heap.size + 2) W W' → W'.heap[w.heap.size]? = some (.deferred (some [])) → Q .normal { a with defers := { target := .collected w.heap.size, args := #[] } :: a.defers } W')
    (hstop : ∀ c W W', Kx c W → Out (w.heap.size + 1) (w.heap.size + 2) W W' → W'.heap[w.heap.size]? = some (.deferred (some [])) → c.wpIn Fence.wide 0 P Q { a with defers := { target := .collected w.heap.size, args := #[] } :: a.defers } W') :
    (Code.rangeFunc g ps assign body).wpIn Fence.wide 0 P Q a w := by
  refine wpIn_rangeFunc ?_
  intro fn hfn
  obtain ⟨rec, hrec⟩ : ∃ rec : LoopState → Option Code → Loop, rec = fun st pe => { state := st, pending := pe, fn, tmps := a.tmps, params := ps, assign, body, defers := w.heap.size } := ⟨_, rfl⟩
  have hc := H rec ⟨fn, hrec⟩ _ rfl
  refine ⟨w.heap.size + 1, [{ target := .collected w.heap.size, args := #[] }], (w.alloc (.deferred (some []))).alloc (.loop (rec .ready none)), { target := .fn (.func gf) lb, args := #[.func (.yield (w.heap.size + 1)) #[] #[]] }, (w.alloc (.deferred (some []))).alloc (.loop (rec .ready none)), gf,
    #[.func (.yield (w.heap.size + 1)) #[] #[]] ++ lb, (w.alloc (.deferred (some []))).alloc (.loop (rec .ready none)), ?_, ?_, fun _ _ => trivial, ?_, fun h => by simp [Fence.wide] at h, ?_⟩
  · rw [hrec]; exact run_enterLoop_outer _ _ _ _ _
  · simp only [resolve, hg]
    simp [go_sem]
  · simp [invoke, go_sem, eg]
  · refine callsIn_wide.2 (hc.mono ?_)
    rintro e W ⟨⟨v, rfl⟩, hD, ⟨hK, hl⟩ | ⟨c, hK, hl⟩⟩
    · refine ⟨none, _, by have := run_endLoop (P := P) hl (by rw [hrec]; simp); rw [hrec] at this; exact this, hdone W _ hK (out_putObj _ _ _) ((World.putObj_heap_other (by omega)).trans hD)⟩
    · refine ⟨some c, _, by have := run_endLoop (P := P) hl (by rw [hrec]; simp); rw [hrec] at this; exact this, hstop c W _ hK (out_putObj _ _ _) ((World.putObj_heap_other (by omega)).trans hD)⟩
/-- how the body of a round may be left -/
def rPost (l : Nat) (rec : LoopState → Option Code → Loop) (R : Ending → World → Prop) : Exit → Act → World → Prop
  | .normal, _, W => W.heap[l]? = some (.loop (rec .busy none)) ∧ ∀ W', Out l (l + 1) W W' → W'.heap[l]? = some (.loop (rec .ready none)) → R (.returned (.bool true)) W'
  | .ret, _, W => W.heap[l]? = some (.loop (rec .busy none)) ∧ ∀ W', Out l (l + 1) W W' → W'.heap[l]? = some (.loop (rec .done (some .ret))) → R (.returned (.bool false)) W'
  | .exit id, _, W => W.heap[l]? = some (.loop (rec .busy none)) ∧ ∀ W', Out l (l + 1) W W' → W'.heap[l]? = some (.loop (rec .done (some (.exit id)))) → R (.returned (.bool false)) W'
  | .goto t, _, W => W.heap[l]? = some (.loop (rec .busy none)) ∧ ∀ W', Out l (l + 1) W W' → W'.heap[l]? = some (.loop (rec .done (some (.goto t)))) → R (.returned (.bool false)) W'
  | .panic _, _, _ => False
  | .outgrown, _, _ => False
/-- one round -/
theorem round_any {P : Program} {a : Act} {ps : Array Tmp} {assign body : Code} {D l : Nat} {rec : LoopState → Option Code → Loop} {W : World} {args : Array Value} {R : Ending → World → Prop}
    (hrec : RecOf a ps assign body D rec) (hl : W.heap[l]? = some (.loop (rec .ready none))) (hs : args.size = ps.size)
    (h : assign.wpIn (Fence.wide.inRound l) 0 P (Exit.then (fun a1 W1 => W1.heap[l]? = some (.loop (rec .ready none)) ∧
      ∀ W2, Out l (l + 1) W1 W2 → W2.heap[l]? = some (.loop (rec .busy none)) → body.wpIn (Fence.wide.inRound l) 0 P (rPost l rec R) a1 W2) (fun _ _ _ => False))
      { tmps := (ps.zip args).foldl (fun t (p, v) => t.setIfInBounds p v) a.tmps, defers := [] } W) : YieldAt Fence.wide 0 P l args W R := by
  obtain ⟨fn, rfl⟩ := hrec
  have hy := run_yield (P := P) (args := args) hl hs
  refine ⟨fn, _, assign, body, hy, roundIn_of_wpIn trivial (wpIn_mono h ?_)⟩
  rintro e a1 W1 he
  cases e with
  | normal =>
    obtain ⟨hl1, hb⟩ := he
    have hlt : l < W1.heap.size := heap_lt hl1
    refine ⟨_, run_beginRound hl1 rfl, wpIn_mono (hb _ (out_putObj _ _ _) (World.putObj_heap_same hlt)) ?_⟩
    rintro e2 a2 W3 hp
    cases e2 with
    | normal => exact ⟨_, _, run_endRound none hp.1, hp.2 _ (out_putObj _ _ _) (World.putObj_heap_same (heap_lt hp.1))⟩
    | ret => exact ⟨_, _, run_endRound (some .ret) hp.1, hp.2 _ (out_putObj _ _ _) (World.putObj_heap_same (heap_lt hp.1))⟩
    | exit id => exact ⟨_, _, run_endRound (some (.exit id)) hp.1, hp.2 _ (out_putObj _ _ _) (World.putObj_heap_same (heap_lt hp.1))⟩
    | goto t => exact ⟨_, _, run_endRound (some (.goto t)) hp.1, hp.2 _ (out_putObj _ _ _) (World.putObj_heap_same (heap_lt hp.1))⟩
    | panic ch => exact hp.elim
    | outgrown => exact hp.elim
  | ret => exact he.elim
  | exit id => exact he.elim
  | goto t => exact he.elim
  | panic ch => exact he.elim
  | outgrown => exact he.elim
end Go.Proofs.YtocncffplcfpbaaGreatDoor
