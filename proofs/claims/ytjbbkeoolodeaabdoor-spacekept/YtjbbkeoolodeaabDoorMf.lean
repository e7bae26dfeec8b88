import Derived.Test.YtjbbkeoolodeaabDoorMa
import Derived.Maps.OwnSet
import Derived.RangeFuncNested
import Derived.RangeFuncBound
import Derived.RangeFuncCalls
import Derived.RangeFuncLeaves
import Derived.Shelf.Abstract
import Derived.Shelf.RegionOpen
import Derived.OwnWalkIn
import Derived.TacticsInMore
import Derived.LoopNIn
import Derived.LoopIn
import Derived.Test.YtjbbkeoolodeaabDoorMe
import Derived.Test.YtjbbkeoolodeaabDoorMd
import Derived.Test.YtjbbkeoolodeaabDoorMb
namespace Go.Proofs.YtjbbkeoolodeaabDoor
open Go.RowKit Go.MapKept
open Go.ChangeMaps (setBlock)
set_option linter.unusedVariables false
set_option linter.unusedSimpArgs false

/-- block b is a map: at the key a 'f a' -/
def MpAt (w : World) (b : Nat) (f : Int → Option Value) : Prop :=
  ∃ es clock, w.heap[b]? = some (.map es clock) ∧ Stamped es clock ∧ (∀ x ∈ es.toList, ∃ a, x.key = .int .i64 a) ∧ ∀ a v, f a = some v ↔ ∃ x ∈ es.toList, x.key = .int .i64 a ∧ x.val = v
theorem MpAt.lt {w : World} {b : Nat} {f : Int → Option Value} (h : MpAt w b f) : b < w.heap.size := by
  obtain ⟨es, clock, hb, _⟩ := h
  exact heap_lt hb
theorem MpAt.kept {w w' : World} {b lo hi : Nat} {f : Int → Option Value} (h : MpAt w b f) (o : Out lo hi w w') (hd : b < lo ∨ hi ≤ b) : MpAt w' b f := by
  obtain ⟨es, clock, hb, r⟩ := h
  exact ⟨es, clock, o.heap hb hd, r⟩
theorem MpAt.congr {w : World} {b : Nat} {f g : Int → Option Value} (h : MpAt w b f) (e : ∀ a, f a = g a) : MpAt w b g := by
  have : f = g := funext e
  rw [← this]; exact h
theorem mp_new (w : World) : MpAt (w.alloc (.map #[] 0)) w.heap.size (fun _ => none) :=
  ⟨#[], 0, (heap_alloc w _).1, stamped_empty 0, by simp, by simp⟩
theorem MpAt.isKeys {es : Array MapEntry} (h : ∀ x ∈ es.toList, ∃ a, x.key = .int .i64 a) : ∀ x ∈ es.toList, IsKey (.int .i64) x.key := fun x hx => by
  obtain ⟨a, e⟩ := h x hx
  rw [e]; exact rfl
section
variable {P : Program} {w : World} {t k e : TypeId} {b : Nat} {f : Int → Option Value}
theorem mp_look (c : Bool) (ht : P.underlying t = some (.map k e)) (hk : P.underlying k = some (.int .i64)) {z : Value} (hz : (zeroValue e).run P w = .ok z w) (h : MpAt w b f) (a : Int) :
    (Instr.lookup t (.map (some b)) (.int .i64 a) c).run P w = .ok (if c then .tuple #[(f a).getD z, .bool (f a).isSome] else (f a).getD z) w := by
  obtain ⟨es, clock, hb, hs, hks, hf⟩ := h
  have ik : IsKey (.int .i64) (.int .i64 a) := rfl
  rcases findNow_spec ik es.toList 0 (MpAt.isKeys hks) with ⟨h1, h2⟩ | ⟨j, e0, h1, h2, h3⟩
  · have hn : f a = none := by
      cases hfa : f a with
      | none => rfl
      | some v =>
        obtain ⟨x, hx, hxk, _⟩ := (hf a v).1 hfa
        exact absurd hxk (h2 x hx)
    simp [Instr.lookup, run_underlying ht, MapKept.run_getObj_map hb, run_checkKey hk ik, run_findKey hk h1, hz, hn, Result.andThen]
  · have hv : f a = some e0.val := (hf a _).2 ⟨e0, List.mem_of_getElem? h2, h3, rfl⟩
    simp [Instr.lookup, run_underlying ht, MapKept.run_getObj_map hb, run_checkKey hk ik, run_findKey hk h1, hv, Result.andThen]
theorem out_setBlock {es : Array MapEntry} {clock : Nat} (hb : w.heap[b]? = some (.map es clock)) (o : Obj) : Out b (b + 1) w { w with heap := w.heap.setIfInBounds b o } :=
  ⟨rfl, rfl, rfl, by simp, fun j h1 h2 => (heap_set (o' := o) hb).2 j (by omega)⟩
theorem mp_put (ht : P.underlying t = some (.map k e)) (hk : P.underlying k = some (.int .i64)) (h : MpAt w b f) (a : Int) (v : Value) :
    ∃ w', (Instr.mapUpdate t (.map (some b)) (.int .i64 a) v).run P w = .ok () w' ∧ MpAt w' b (fun x => if x = a then some v else f x) ∧ Out b (b + 1) w w' := by
  obtain ⟨es, clock, hb, hs, hks, hf⟩ := h
  have ik : IsKey (.int .i64) (.int .i64 a) := rfl
  rcases findNow_spec ik es.toList 0 (MpAt.isKeys hks) with ⟨h1, h2⟩ | ⟨j, e0, h1, h2, h3⟩
  · refine ⟨_, by simp [Instr.mapUpdate, run_underlying ht, MapKept.run_getObj_map hb, run_checkKey hk ik, run_findKey hk h1, MapKept.run_setObj_map _ hb, Result.andThen]; rfl, ⟨_, _, (heap_set hb).1, stamped_push hs h2, ?_, ?_⟩, out_setBlock hb _⟩
    · intro x hx
      simp only [Array.toList_push, List.mem_append, List.mem_singleton] at hx
      rcases hx with hx | rfl
      · exact hks x hx
      · exact ⟨a, rfl⟩
    · intro a' v'
      show (if a' = a then some v else f a') = some v' ↔ _
      by_cases ea : a' = a
      · subst ea
        rw [if_pos rfl]
        constructor
        · intro hv
          cases hv
          exact ⟨⟨_, _, clock⟩, by simp, rfl, rfl⟩
        · rintro ⟨x, hx, hxk, rfl⟩
          simp only [Array.toList_push, List.mem_append, List.mem_singleton] at hx
          rcases hx with hx | rfl
          · exact absurd hxk (h2 x hx)
          · rfl
      · rw [if_neg ea, hf]
        constructor
        · rintro ⟨x, hx, hxk, hxv⟩
          exact ⟨x, by simp [hx], hxk, hxv⟩
        · rintro ⟨x, hx, hxk, hxv⟩
          simp only [Array.toList_push, List.mem_append, List.mem_singleton] at hx
          rcases hx with hx | rfl
          · exact ⟨x, hx, hxk, hxv⟩
          · simp at hxk
            exact absurd hxk.symm ea
  · have hj : es[j]? = some e0 := by simpa using h2
    have hjl : j < es.toList.length := (List.getElem?_eq_some_iff.1 h2).1
    have hkey : ∀ e', es[j]? = some e' → ({ e' with key := .int .i64 a, val := v } : MapEntry).key = e'.key := fun e' he' => by rw [hj] at he'; cases he'; exact h3.symm
    have hlist : (es.modify j (fun e' => { e' with key := .int .i64 a, val := v })).toList = es.toList.set j { e0 with key := .int .i64 a, val := v } := by rw [Array.toList_modify, ChangeMaps.modify_eq_set _ _ _ _ h2]
    have hapart : ∀ x ∈ es.toList, x.key = .int .i64 a → x = e0 := by
      intro x hx hxk
      obtain ⟨i, hi, rfl⟩ := List.getElem_of_mem hx
      by_cases e1 : i = j
      · subst e1
        rw [List.getElem?_eq_getElem hi] at h2
        exact Option.some.inj h2
      · have hp := ((stamped_iff es clock).1 hs).2.2
        rw [List.pairwise_iff_getElem] at hp
        rw [List.getElem?_eq_getElem hjl] at h2
        have h2' := Option.some.inj h2
        rcases Nat.lt_or_gt_of_ne e1 with hlt | hlt
        · exact absurd (by rw [hxk, h2', h3]) (hp i j hi hjl hlt)
        · exact absurd (by rw [hxk, h2', h3]) (hp j i hjl hi hlt)
    refine ⟨{ w with heap := w.heap.setIfInBounds b (.map (es.modify j (fun e' => { e' with key := .int .i64 a, val := v })) clock) }, by simp [Instr.mapUpdate, run_underlying ht, MapKept.run_getObj_map hb, run_checkKey hk ik, run_findKey hk h1, hj, h3, run_keyThatStays ik, MapKept.run_setObj_map _ hb, Result.andThen], ⟨es.modify j (fun e' => { e' with key := .int .i64 a, val := v }), clock, (heap_set hb).1, stamped_modify hs _ _ (fun _ _ => rfl) (fun e' _ he' => hkey e' he'), ?_, ?_⟩, out_setBlock hb _⟩
    · intro x hx
      rw [hlist] at hx
      rcases List.mem_or_eq_of_mem_set hx with hx | rfl
      · exact hks x hx
      · exact ⟨a, rfl⟩
    · intro a' v'
      rw [hlist]
      show (if a' = a then some v else f a') = some v' ↔ _
      by_cases ea : a' = a
      · subst ea
        rw [if_pos rfl]
        constructor
        · intro hv
          cases hv
          exact ⟨_, List.mem_set hjl _, rfl, rfl⟩
        · rintro ⟨x, hx, hxk, rfl⟩
          obtain ⟨i, hi, rfl⟩ := List.getElem_of_mem hx
          rw [List.getElem_set] at hxk ⊢
          by_cases e1 : j = i
          · simp [e1]
          · rw [if_neg e1] at hxk ⊢
            have hi' : i < es.toList.length := by simpa using hi
            have := hapart _ (List.getElem_mem hi') hxk
            have hp := ((stamped_iff es clock).1 hs).2.2
            rw [List.pairwise_iff_getElem] at hp
            rw [List.getElem?_eq_getElem hjl] at h2
            have h2' := Option.some.inj h2
            rcases Nat.lt_or_gt_of_ne e1 with hlt | hlt
            · exact absurd (by rw [hxk, h2', h3]) (hp j i hjl hi' hlt)
            · exact absurd (by rw [hxk, h2', h3]) (hp i j hi' hjl hlt)
      · rw [if_neg ea, hf]
        constructor
        · rintro ⟨x, hx, hxk, hxv⟩
          obtain ⟨i, hi, rfl⟩ := List.getElem_of_mem hx
          by_cases e1 : j = i
          · subst e1
            rw [List.getElem?_eq_getElem hjl] at h2
            rw [Option.some.inj h2, h3] at hxk
            simp at hxk
            exact absurd hxk.symm ea
          · refine ⟨es.toList[i], List.mem_iff_getElem.2 ⟨i, by simpa using hi, by rw [List.getElem_set, if_neg e1]⟩, hxk, hxv⟩
        · rintro ⟨x, hx, hxk, hxv⟩
          rcases List.mem_or_eq_of_mem_set hx with hx | rfl
          · exact ⟨x, hx, hxk, hxv⟩
          · simp at hxk
            exact absurd hxk.symm ea
theorem mp_del {ty : TypeId} (ht : P.underlying t = some (.map k e)) (hk : P.underlying k = some (.int .i64)) (h : MpAt w b f) (a : Int) :
    ∃ w', (Builtin.delete_ #[t, k] ty #[.map (some b), .int .i64 a]).run P w = .ok (.tuple #[]) w' ∧ MpAt w' b (fun x => if x = a then none else f x) ∧ Out b (b + 1) w w' := by
  obtain ⟨es, clock, hb, hs, hks, hf⟩ := h
  have ik : IsKey (.int .i64) (.int .i64 a) := rfl
  rcases findNow_spec ik es.toList 0 (MpAt.isKeys hks) with ⟨h1, h2⟩ | ⟨j, e0, h1, h2, h3⟩
  · refine ⟨_, by simp [Builtin.delete_, run_underlying ht, MapKept.run_getObj_map hb, run_checkKey hk ik, run_findKey hk h1, MapKept.run_setObj_map _ hb, Result.andThen]; rfl, ?_⟩
    have hn : f a = none := by
      cases hfa : f a with
      | none => rfl
      | some v =>
        obtain ⟨x, hx, hxk, _⟩ := (hf a v).1 hfa
        exact absurd hxk (h2 x hx)
    first
      | exact ⟨MpAt.congr ⟨es, clock, hb, hs, hks, hf⟩ (fun x => by by_cases ex : x = a <;> simp [ex, hn]), Out.refl _ _ _⟩
      | exact ⟨MpAt.congr ⟨es, clock, (heap_set hb).1, hs, hks, hf⟩ (fun x => by by_cases ex : x = a <;> simp [ex, hn]), out_setBlock hb _⟩
  · have hjl : j < es.toList.length := (List.getElem?_eq_some_iff.1 h2).1
    have hjs : j < es.size := by simpa using hjl
    have hsub : (es.eraseIdxIfInBounds j).toList = es.toList.eraseIdx j := by
      unfold Array.eraseIdxIfInBounds
      rw [dif_pos hjs]
      simp
    refine ⟨_, by simp [Builtin.delete_, run_underlying ht, MapKept.run_getObj_map hb, run_checkKey hk ik, run_findKey hk h1, MapKept.run_setObj_map _ hb, Result.andThen], ⟨_, _, (heap_set hb).1, stamped_erase hs j, ?_, ?_⟩, out_setBlock hb _⟩
    · intro x hx
      rw [hsub] at hx
      exact hks x ((List.eraseIdx_sublist _ _).subset hx)
    · intro a' v'
      rw [hsub]
      have hp := ((stamped_iff es clock).1 hs).2.2
      rw [List.pairwise_iff_getElem] at hp
      rw [List.getElem?_eq_getElem hjl] at h2
      have h2' := Option.some.inj h2
      show (if a' = a then none else f a') = some v' ↔ _
      by_cases ea : a' = a
      · subst ea
        rw [if_pos rfl]
        constructor
        · intro hv; cases hv
        · rintro ⟨x, hx, hxk, _⟩
          obtain ⟨i, hne, hi⟩ := List.mem_eraseIdx_iff_getElem?.1 hx
          obtain ⟨hi', hxe⟩ := List.getElem?_eq_some_iff.1 hi
          rcases Nat.lt_or_gt_of_ne hne with hlt | hlt
          · exact absurd (by rw [hxe, hxk, h2', h3]) (hp i j hi' hjl hlt)
          · exact absurd (by rw [hxe, hxk, h2', h3]) (hp j i hjl hi' hlt)
      · rw [if_neg ea, hf]
        constructor
        · rintro ⟨x, hx, hxk, hxv⟩
          obtain ⟨i, hi, rfl⟩ := List.getElem_of_mem hx
          refine ⟨_, List.mem_eraseIdx_iff_getElem?.2 ⟨i, fun e1 => ?_, List.getElem?_eq_getElem hi⟩, hxk, hxv⟩
          subst e1
          rw [h2', h3] at hxk
          simp at hxk
          exact ea hxk.symm
        · rintro ⟨x, hx, hxk, hxv⟩
          exact ⟨x, (List.eraseIdx_sublist _ _).subset hx, hxk, hxv⟩
end
end Go.Proofs.YtjbbkeoolodeaabDoor
namespace Go.Proofs.YtjbbkeoolodeaabDoor
open Go.RowKit
set_option linter.unusedVariables false
set_option linter.unusedSimpArgs false

theorem out_putObj (W : World) (l : Nat) (o : Obj) : Out l (l + 1) W (W.putObj l o) :=
  ⟨rfl, rfl, rfl, by simp, fun k _ h2 => World.putObj_heap_other (by omega)⟩
/-- the record of a loop at the world w: what it bears besides its state and its pending jump -/
def RecOf (a : Act) (ps : Array Tmp) (assign body : Code) (D : Nat) (rec : LoopState → Option Code → Loop) : Prop :=
  ∃ fn, rec = fun st pe => { state := st, pending := pe, fn, tmps := a.tmps, params := ps, assign, body, defers := D }
/-- a statement 'for .. := range g': the iterator is called with yield; behind it all have come (K), or a round has left (Kx) -/
theorem range_any {P : Program} {g : Operand} {ps : Array Tmp} {assign body : Code} {Q : Exit → Act → World → Prop} {a : Act} {w : World} {gf : Nat} {lb : Array Value}
    (hg : a.eval g = .func (.func gf) #[] lb) (eg : ∀ args w, (callFunc gf args).run P w = .ok (.enter gf args) w) (K : World → Prop) (Kx : Code → World → Prop)
    (H : ∀ rec, RecOf a ps assign body w.heap.size rec → ∀ W1, W1 = (w.alloc (.deferred (some []))).alloc (.loop (rec .ready none)) →
      Calls P gf (#[.func (.yield (w.heap.size + 1)) #[] #[]] ++ lb) W1 fun e W => (∃ v, e = .returned v) ∧ W.heap[w.heap.size]? = some (.deferred (some [])) ∧
        ((K W ∧ W.heap[w.heap.size + 1]? = some (.loop (rec .ready none))) ∨ ∃ c, Kx c W ∧ W.heap[w.heap.size + 1]? = some (.loop (rec .done (some c)))))
    (hdone : ∀ W W', K W → Out (w.heap.size + 1) (w.heap.size + 2) W W' → W'.heap[w.heap.size]? = some (.deferred (some [])) → Q .normal { a with defers := { target := .collected w.heap.size, args := #[] } :: a.defers } W')
    (hstop : ∀ c W W', Kx c W → Out (w.heap.size + 1) (w.heap.size + 2) W W' → W'.heap[w.heap.size]? = some (.deferred (some [])) → c.wpIn Fence.wide 0 P Q { a with defers := { target := .collected w.heap.size, args := #[] } :: a.defers } W') :
    (Code.rangeFunc g ps assign body).wpIn Fence.wide 0 P Q a w := by
  refine wpIn_rangeFunc ?_
  intro fn hfn
  obtain ⟨rec, hrec⟩ : ∃ rec : LoopState → Option Code → Loop, rec = fun st pe => { state := st, pending := pe, fn, tmps := a.tmps, params := ps, assign, body, defers := w.heap.size } := ⟨_, rfl⟩
  have hc := H rec ⟨fn, hrec⟩ _ rfl
  refine ⟨w.heap.size + 1, [{ target := .collected w.heap.size, args := #[] }], (w.alloc (.deferred (some []))).alloc (.loop (rec .ready none)), { target := .fn (.func gf) lb, args := #[.func (.yield (w.heap.size + 1)) #[] #[]] }, (w.alloc (.deferred (some []))).alloc (.loop (rec .ready none)), gf,
    #[.func (.yield (w.heap.size + 1)) #[] #[]] ++ lb, (w.alloc (.deferred (some []))).alloc (.loop (rec .ready none)), ?_, ?_, fun _ _ => trivial, ?_, fun h => by simp [Fence.wide] at h, ?_⟩
  · rw [hrec]; exact run_enterLoop_outer _ _ _ _ _
  · simp only [resolve, hg]
    simp [go_sem]
  · simp [invoke, go_sem, eg]
  · refine callsIn_wide.2 (hc.mono ?_)
    rintro e W ⟨⟨v, rfl⟩, hD, ⟨hK, hl⟩ | ⟨c, hK, hl⟩⟩
    · refine ⟨none, _, by have := run_endLoop (P := P) hl (by rw [hrec]; simp); rw [hrec] at this; exact this, hdone W _ hK (out_putObj _ _ _) ((World.putObj_heap_other (by omega)).trans hD)⟩
    · refine ⟨some c, _, by have := run_endLoop (P := P) hl (by rw [hrec]; simp); rw [hrec] at this; exact this, hstop c W _ hK (out_putObj _ _ _) ((World.putObj_heap_other (by omega)).trans hD)⟩
/-- how the body of a round may be left -/
def rPost (l : Nat) (rec : LoopState → Option Code → Loop) (R : Ending → World → Prop) : Exit → Act → World → Prop
  | .normal, _, W => W.heap[l]? = some (.loop (rec .busy none)) ∧ ∀ W', Out l (l + 1) W W' → W'.heap[l]? = some (.loop (rec .ready none)) → R (.returned (.bool true)) W'
  | .ret, _, W => W.heap[l]? = some (.loop (rec .busy none)) ∧ ∀ W', Out l (l + 1) W W' → W'.heap[l]? = some (.loop (rec .done (some .ret))) → R (.returned (.bool false)) W'
  | .exit id, _, W => W.heap[l]? = some (.loop (rec .busy none)) ∧ ∀ W', Out l (l + 1) W W' → W'.heap[l]? = some (.loop (rec .done (some (.exit id)))) → R (.returned (.bool false)) W'
  | .goto t, _, W => W.heap[l]? = some (.loop (rec .busy none)) ∧ ∀ W', Out l (l + 1) W W' → W'.heap[l]? = some (.loop (rec .done (some (.goto t)))) → R (.returned (.bool false)) W'
  | .panic _, _, _ => False
  | .outgrown, _, _ => False
/-- one round -/
theorem round_any {P : Program} {a : Act} {ps : Array Tmp} {assign body : Code} {D l : Nat} {rec : LoopState → Option Code → Loop} {W : World} {args : Array Value} {R : Ending → World → Prop}
    (hrec : RecOf a ps assign body D rec) (hl : W.heap[l]? = some (.loop (rec .ready none))) (hs : args.size = ps.size)
    (h : assign.wpIn (Fence.wide.inRound l) 0 P (Exit.then (fun a1 W1 => W1.heap[l]? = some (.loop (rec .ready none)) ∧
      ∀ W2, Out l (l + 1) W1 W2 → W2.heap[l]? = some (.loop (rec .busy none)) → body.wpIn (Fence.wide.inRound l) 0 P (rPost l rec R) a1 W2) (fun _ _ _ => False))
      { tmps := (ps.zip args).foldl (fun t (p, v) => t.setIfInBounds p v) a.tmps, defers := [] } W) : YieldAt Fence.wide 0 P l args W R := by
  obtain ⟨fn, rfl⟩ := hrec
  have hy := run_yield (P := P) (args := args) hl hs
  refine ⟨fn, _, assign, body, hy, roundIn_of_wpIn trivial (wpIn_mono h ?_)⟩
  rintro e a1 W1 he
  cases e with
  | normal =>
    obtain ⟨hl1, hb⟩ := he
    have hlt : l < W1.heap.size := heap_lt hl1
    refine ⟨_, run_beginRound hl1 rfl, wpIn_mono (hb _ (out_putObj _ _ _) (World.putObj_heap_same hlt)) ?_⟩
    rintro e2 a2 W3 hp
    cases e2 with
    | normal => exact ⟨_, _, run_endRound none hp.1, hp.2 _ (out_putObj _ _ _) (World.putObj_heap_same (heap_lt hp.1))⟩
    | ret => exact ⟨_, _, run_endRound (some .ret) hp.1, hp.2 _ (out_putObj _ _ _) (World.putObj_heap_same (heap_lt hp.1))⟩
    | exit id => exact ⟨_, _, run_endRound (some (.exit id)) hp.1, hp.2 _ (out_putObj _ _ _) (World.putObj_heap_same (heap_lt hp.1))⟩
    | goto t => exact ⟨_, _, run_endRound (some (.goto t)) hp.1, hp.2 _ (out_putObj _ _ _) (World.putObj_heap_same (heap_lt hp.1))⟩
    | panic ch => exact hp.elim
    | outgrown => exact hp.elim
  | ret => exact he.elim
  | exit id => exact he.elim
  | goto t => exact he.elim
  | panic ch => exact he.elim
  | outgrown => exact he.elim
end Go.Proofs.YtjbbkeoolodeaabDoor
namespace Go.Proofs.YtjbbkeoolodeaabDoor
open Go.RowKit
set_option linter.unusedVariables false
set_option linter.unusedSimpArgs false

/-- the parts of a space, each as it lies -/
structure Raw where
  W : Nat → Int
  S : Nat → Int × Int × Int
  F : Nat → Nat → Bool
  P : Nat → Bool
  M : Int → Option Blk
  R : Int → Option Int
  last : Int
def blkV (a : Int) (b : Blk) : Value := .agg #[.int .i64 a, .int .i64 b.1, .int .i64 b.2.1, .int .i64 b.2.2.1, .int .i64 b.2.2.2]
/-- 0 to 7: the free blocks of each class; 8: the places; 9, 10: the table and its pages; 11: the words; 12, 13: the two maps; 14: the struct -/
def ln (i : Nat) : Nat := if i < 9 then 2 else 1
def spCells (s : Nat → Nat) (n cap : Nat) (last : Int) : Array Value :=
  #[.slice (some ⟨s 11, 0, none⟩) (64 * n) cap, .pointer (some ⟨s 9, 0, none⟩), .map (some (s 12)), .pointer (some ⟨s 8 + 1, 0, none⟩), .pointer (some ⟨s 0 + 1, 0, none⟩), .pointer (some ⟨s 1 + 1, 0, none⟩), .pointer (some ⟨s 2 + 1, 0, none⟩),
    .pointer (some ⟨s 3 + 1, 0, none⟩), .pointer (some ⟨s 4 + 1, 0, none⟩), .pointer (some ⟨s 5 + 1, 0, none⟩), .pointer (some ⟨s 6 + 1, 0, none⟩), .pointer (some ⟨s 7 + 1, 0, none⟩), .map (some (s 13)), .int .i64 last]
def mapM (M : Int → Option Blk) (a : Int) : Option Value := (M a).map (blkV a)
def mapR (R : Int → Option Int) (a : Int) : Option Value := (R a).map (fun x => .int .i64 x)
structure RawAt (w : World) (lo hi : Nat) (s : Nat → Nat) (n cap : Nat) (r : Raw) : Prop where
  glob : 4 ≤ lo
  top : hi ≤ w.heap.size
  inn : ∀ i, i < 15 → lo ≤ s i ∧ s i + ln i ≤ hi
  apart : ∀ i j, i < 15 → j < 15 → i ≠ j → s i + ln i ≤ s j ∨ s j + ln j ≤ s i
  n1 : 1 ≤ n
  n2 : n ≤ 4096
  capn : 64 * n ≤ cap
  tab : Tab w
  self : w.heap[s 14]? = some (.cells (spCells s n cap r.last) 82 (0, 0))
  words : Row w (s 11) 3 (64 * n) (fun i => .int .i64 (r.W i))
  tbl : TblAt 114 w (s 9) (s 10) n r.S
  objs : MpAt w (s 12) (mapM r.M)
  sers : MpAt w (s 13) (mapR r.R)
  places : MapAt w (s 8) (s 8 + 2) (s 8 + 1) (64 * n) r.P
  free : ∀ c, c < 8 → MapAt w (s c) (s c + 2) (s c + 1) (64 * n) (r.F c)
section
variable {w w' : World} {lo hi n cap : Nat} {s : Nat → Nat} {r : Raw}
/-- what is written beside it -/
theorem RawAt.kept {x y : Nat} (h : RawAt w lo hi s n cap r) (o : Out x y w w') (hd : hi ≤ x ∨ y ≤ lo) (hg : 4 ≤ x ∨ y = 0) : RawAt w' lo hi s n cap r := by
  have ini := fun i hi => h.inn i hi
  have h8 := ini 8 (by omega)
  have h9 := ini 9 (by omega)
  have h10 := ini 10 (by omega)
  have h11 := ini 11 (by omega)
  have h12 := ini 12 (by omega)
  have h13 := ini 13 (by omega)
  have h14 := ini 14 (by omega)
  simp [ln] at h8 h9 h10 h11 h12 h13 h14
  refine ⟨h.glob, Nat.le_trans h.top o.size, h.inn, h.apart, h.n1, h.n2, h.capn, h.tab.kept o hg, o.heap h.self (by omega), h.words.kept o (by omega), h.tbl.kept o (by omega) (by omega), h.objs.kept o (by omega), h.sers.kept o (by omega), h.places.kept o (by omega) hg, fun c hc => (h.free c hc).kept o ?_ hg⟩
  have := ini c (by omega)
  simp [ln, show c < 9 from by omega] at this
  omega
theorem RawAt.quiet (h : RawAt w lo hi s n cap r) (o : Out 0 0 w w') : RawAt w' lo hi s n cap r := h.kept o (.inr (Nat.zero_le _)) (.inr rfl)
theorem RawAt.wide (h : RawAt w lo hi s n cap r) {i : Nat} (hi' : i < 15) (o : Out (s i) (s i + ln i) w w') : Out lo hi w w' := o.wide (h.inn i hi').1 (h.inn i hi').2
/-- one part is written: the others stay -/
theorem RawAt.but (h : RawAt w lo hi s n cap r) {i : Nat} (hi' : i < 15) (o : Out (s i) (s i + ln i) w w') :
    4 ≤ s i ∧ hi ≤ w'.heap.size ∧ Tab w' ∧ (i ≠ 14 → w'.heap[s 14]? = some (.cells (spCells s n cap r.last) 82 (0, 0))) ∧ (i ≠ 11 → Row w' (s 11) 3 (64 * n) (fun i => .int .i64 (r.W i))) ∧
      (i ≠ 9 → i ≠ 10 → TblAt 114 w' (s 9) (s 10) n r.S) ∧ (i ≠ 12 → MpAt w' (s 12) (mapM r.M)) ∧ (i ≠ 13 → MpAt w' (s 13) (mapR r.R)) ∧
      (i ≠ 8 → MapAt w' (s 8) (s 8 + 2) (s 8 + 1) (64 * n) r.P) ∧ (∀ c, c < 8 → i ≠ c → MapAt w' (s c) (s c + 2) (s c + 1) (64 * n) (r.F c)) := by
  have hg : 4 ≤ s i := by have := (h.inn i hi').1; have := h.glob; omega
  have ap := fun j hj hne => h.apart i j hi' hj hne
  have l1 : ∀ j, 9 ≤ j → ln j = 1 := fun j hj => by unfold ln; rw [if_neg (by omega)]
  have l2 : ∀ j, j < 9 → ln j = 2 := fun j hj => by unfold ln; rw [if_pos hj]
  refine ⟨hg, Nat.le_trans h.top o.size, h.tab.kept o (.inl hg), fun e => o.heap h.self ?_, fun e => h.words.kept o ?_, fun e e' => h.tbl.kept o ?_ ?_, fun e => h.objs.kept o ?_, fun e => h.sers.kept o ?_, fun e => h.places.kept o ?_ (.inl hg), fun c hc e => (h.free c hc).kept o ?_ (.inl hg)⟩
  · have := ap 14 (by omega) e; rw [l1 14 (by omega)] at this; omega
  · have := ap 11 (by omega) e; rw [l1 11 (by omega)] at this; omega
  · have := ap 9 (by omega) e; rw [l1 9 (by omega)] at this; omega
  · have := ap 10 (by omega) e'; rw [l1 10 (by omega)] at this; omega
  · have := ap 12 (by omega) e; rw [l1 12 (by omega)] at this; omega
  · have := ap 13 (by omega) e; rw [l1 13 (by omega)] at this; omega
  · have := ap 8 (by omega) e; rw [l2 8 (by omega)] at this; omega
  · have := ap c (by omega) e; rw [l2 c (by omega)] at this; omega
theorem RawAt.setF (h : RawAt w lo hi s n cap r) {c : Nat} (hc : c < 8) {S' : Nat → Bool} (o : Out (s c) (s c + 2) w w') (hm : MapAt w' (s c) (s c + 2) (s c + 1) (64 * n) S') :
    RawAt w' lo hi s n cap { r with F := fun d => if d = c then S' else r.F d } := by
  obtain ⟨b0, b1, b2, b3, b4, b5, b6, b7, b8, b9⟩ := h.but (i := c) (by omega) (by unfold ln; rw [if_pos (show c < 9 from by omega)]; exact o)
  refine ⟨h.glob, b1, h.inn, h.apart, h.n1, h.n2, h.capn, b2, b3 (by omega), b4 (by omega), b5 (by omega) (by omega), b6 (by omega), b7 (by omega), b8 (by omega), fun d hd => ?_⟩
  show MapAt w' (s d) (s d + 2) (s d + 1) (64 * n) (if d = c then S' else r.F d)
  by_cases e : d = c
  · rw [if_pos e, e]; exact hm
  · rw [if_neg e]; exact b9 d hd (fun e' => e e'.symm)
theorem RawAt.setP (h : RawAt w lo hi s n cap r) {S' : Nat → Bool} (o : Out (s 8) (s 8 + 2) w w') (hm : MapAt w' (s 8) (s 8 + 2) (s 8 + 1) (64 * n) S') : RawAt w' lo hi s n cap { r with P := S' } := by
  obtain ⟨b0, b1, b2, b3, b4, b5, b6, b7, b8, b9⟩ := h.but (i := 8) (by omega) o
  exact ⟨h.glob, b1, h.inn, h.apart, h.n1, h.n2, h.capn, b2, b3 (by omega), b4 (by omega), b5 (by omega) (by omega), b6 (by omega), b7 (by omega), hm, fun d hd => b9 d hd (by omega)⟩
theorem RawAt.setT (h : RawAt w lo hi s n cap r) {S' : Nat → Int × Int × Int} (o : Out (s 10) (s 10 + 1) w w') (hm : TblAt 114 w' (s 9) (s 10) n S') : RawAt w' lo hi s n cap { r with S := S' } := by
  obtain ⟨b0, b1, b2, b3, b4, b5, b6, b7, b8, b9⟩ := h.but (i := 10) (by omega) o
  exact ⟨h.glob, b1, h.inn, h.apart, h.n1, h.n2, h.capn, b2, b3 (by omega), b4 (by omega), hm, b6 (by omega), b7 (by omega), b8 (by omega), fun d hd => b9 d hd (by omega)⟩
theorem RawAt.setW (h : RawAt w lo hi s n cap r) {W' : Nat → Int} (o : Out (s 11) (s 11 + 1) w w') (hm : Row w' (s 11) 3 (64 * n) (fun i => .int .i64 (W' i))) : RawAt w' lo hi s n cap { r with W := W' } := by
  obtain ⟨b0, b1, b2, b3, b4, b5, b6, b7, b8, b9⟩ := h.but (i := 11) (by omega) o
  exact ⟨h.glob, b1, h.inn, h.apart, h.n1, h.n2, h.capn, b2, b3 (by omega), hm, b5 (by omega) (by omega), b6 (by omega), b7 (by omega), b8 (by omega), fun d hd => b9 d hd (by omega)⟩
theorem RawAt.setM (h : RawAt w lo hi s n cap r) {M' : Int → Option Blk} (o : Out (s 12) (s 12 + 1) w w') (hm : MpAt w' (s 12) (mapM M')) : RawAt w' lo hi s n cap { r with M := M' } := by
  obtain ⟨b0, b1, b2, b3, b4, b5, b6, b7, b8, b9⟩ := h.but (i := 12) (by omega) o
  exact ⟨h.glob, b1, h.inn, h.apart, h.n1, h.n2, h.capn, b2, b3 (by omega), b4 (by omega), b5 (by omega) (by omega), hm, b7 (by omega), b8 (by omega), fun d hd => b9 d hd (by omega)⟩
theorem RawAt.setR (h : RawAt w lo hi s n cap r) {R' : Int → Option Int} (o : Out (s 13) (s 13 + 1) w w') (hm : MpAt w' (s 13) (mapR R')) : RawAt w' lo hi s n cap { r with R := R' } := by
  obtain ⟨b0, b1, b2, b3, b4, b5, b6, b7, b8, b9⟩ := h.but (i := 13) (by omega) o
  exact ⟨h.glob, b1, h.inn, h.apart, h.n1, h.n2, h.capn, b2, b3 (by omega), b4 (by omega), b5 (by omega) (by omega), b6 (by omega), hm, b8 (by omega), fun d hd => b9 d hd (by omega)⟩
theorem RawAt.setL (h : RawAt w lo hi s n cap r) (v : Int) : RawAt (w.setCell ⟨s 14, 13, none⟩ (.int .i64 v)) lo hi s n cap { r with last := v } ∧ Out (s 14) (s 14 + 1) w (w.setCell ⟨s 14, 13, none⟩ (.int .i64 v)) := by
  have o : Out (s 14) (s 14 + 1) w (w.setCell ⟨s 14, 13, none⟩ (.int .i64 v)) := (Out.refl _ _ _).setCell (.inl ⟨Nat.le_refl _, Nat.lt_succ_self _⟩) _
  obtain ⟨b0, b1, b2, b3, b4, b5, b6, b7, b8, b9⟩ := h.but (i := 14) (by omega) o
  refine ⟨⟨h.glob, b1, h.inn, h.apart, h.n1, h.n2, h.capn, b2, ?_, b4 (by omega), b5 (by omega) (by omega), b6 (by omega), b7 (by omega), b8 (by omega), fun d hd => b9 d hd (by omega)⟩, o⟩
  simp [World.setCell, Array.getElem?_modify, h.self]
  simp [spCells]
/-- the struct's cells -/
theorem RawAt.cells (h : RawAt w lo hi s n cap r) : w.cell? ⟨s 14, 0, none⟩ = some (.slice (some ⟨s 11, 0, none⟩) (64 * n) cap) ∧ w.cell? ⟨s 14, 1, none⟩ = some (.pointer (some ⟨s 9, 0, none⟩)) ∧ w.cell? ⟨s 14, 2, none⟩ = some (.map (some (s 12))) ∧
    w.cell? ⟨s 14, 3, none⟩ = some (.pointer (some ⟨s 8 + 1, 0, none⟩)) ∧ w.cell? ⟨s 14, 12, none⟩ = some (.map (some (s 13))) ∧ w.cell? ⟨s 14, 13, none⟩ = some (.int .i64 r.last) := by
  have h' := h.self
  refine ⟨?_, ?_, ?_, ?_, ?_, ?_⟩ <;> simp [World.cell?, h', spCells]
theorem RawAt.cellF (h : RawAt w lo hi s n cap r) {c : Nat} (hc : c < 8) : w.cell? ⟨s 14, 4 + c, none⟩ = some (.pointer (some ⟨s c + 1, 0, none⟩)) := by
  have h' := h.self
  have : c = 0 ∨ c = 1 ∨ c = 2 ∨ c = 3 ∨ c = 4 ∨ c = 5 ∨ c = 6 ∨ c = 7 := by omega
  rcases this with rfl | rfl | rfl | rfl | rfl | rfl | rfl | rfl <;> simp [World.cell?, h', spCells]
theorem RawAt.cellL (h : RawAt w lo hi s n cap r) : w.frozen? ⟨s 14, 13, none⟩ = false := by
  have h' := h.self
  simp [World.frozen?, h']
theorem RawAt.congr {r' : Raw} (h : RawAt w lo hi s n cap r) (e : r = r') : RawAt w lo hi s n cap r' := e ▸ h
theorem Raw.eq {a b : Raw} (h1 : a.W = b.W) (h2 : a.S = b.S) (h3 : a.F = b.F) (h4 : a.P = b.P) (h5 : a.M = b.M) (h6 : a.R = b.R) (h7 : a.last = b.last) : a = b := by
  cases a; cases b; simp_all
end
/-! tied -/
def obM (st : Sp) (a : Int) : Option Blk := if 0 ≤ a ∧ hasB (st.O a.toNat) = true then some (st.O a.toNat) else none
def serF (n : Nat) (st : Sp) (x : Int) : Option Nat := if 1 ≤ x then (List.range (64 * n)).find? (fun a => hasB (st.O a) && ((st.O a).2.2.1 == x)) else none
def serM (n : Nat) (st : Sp) (x : Int) : Option Int := (serF n st x).map (fun a => (a : Int))
def rawOf (n : Nat) (st : Sp) : Raw := ⟨st.W, st.S, fun c => fr n st (c : Int), ob n st, obM st, serM n st, st.last⟩
/-- a space -/
def SpAt (w : World) (lo hi : Nat) (s : Nat → Nat) (n cap : Nat) (st : Sp) : Prop := RawAt w lo hi s n cap (rawOf n st) ∧ Inv n st
theorem SpAt.kept {w w' : World} {lo hi n cap x y : Nat} {s : Nat → Nat} {st : Sp} (h : SpAt w lo hi s n cap st) (o : Out x y w w') (hd : hi ≤ x ∨ y ≤ lo) (hg : 4 ≤ x ∨ y = 0) : SpAt w' lo hi s n cap st := ⟨h.1.kept o hd hg, h.2⟩
theorem SpAt.quiet {w w' : World} {lo hi n cap : Nat} {s : Nat → Nat} {st : Sp} (h : SpAt w lo hi s n cap st) (o : Out 0 0 w w') : SpAt w' lo hi s n cap st := ⟨h.1.quiet o, h.2⟩
end Go.Proofs.YtjbbkeoolodeaabDoor
namespace Go.Proofs.YtjbbkeoolodeaabDoor
open Go.RowKit
set_option linter.unusedVariables false
set_option linter.unusedSimpArgs false

theorem zero_block (w : World) : (zeroValue 36).run Tryd.prog w = .ok (.agg #[.int .i64 0, .int .i64 0, .int .i64 0, .int .i64 0, .int .i64 0]) w := by kernel_rfl
theorem zero_int (w : World) : (zeroValue 3).run Tryd.prog w = .ok (.int .i64 0) w := by kernel_rfl
theorem infoB (a b c d e : Int) : (Tryd.prog.info? 36).map (·.size) = some (#[Value.int .i64 a, .int .i64 b, .int .i64 c, .int .i64 d, .int .i64 e]).size := by
  rw [show (#[Value.int .i64 a, .int .i64 b, .int .i64 c, .int .i64 d, .int .i64 e]).size = 5 from rfl]; kernel_rfl
theorem infoF (a b : Int) : (Tryd.prog.info? 57).map (·.size) = some (#[Value.int .i64 a, .int .i64 b]).size := by
  rw [show (#[Value.int .i64 a, .int .i64 b]).size = 2 from rfl]; kernel_rfl
def fltV (e a : Int) : Value := .agg #[.int .i64 e, .int .i64 a]
theorem retBlk2 {fn : Func} {p u : Tmp} {a : Act} {w : World} {g : Nat} {x1 x2 x3 x4 x5 : Int} {v : Value} {post : Ending → World → Prop} (hr : fn.results = #[.cell p 36, .tmp u]) (hp : a.tmps.getD p undef = .pointer (some ⟨g, 0, none⟩)) (hu : a.tmps.getD u undef = v)
    (hd : a.defers = []) (hg : w.heap[g]? = some (.cells #[.int .i64 x1, .int .i64 x2, .int .i64 x3, .int .i64 x4, .int .i64 x5] 36 (0, 0))) (h : post (.returned (.tuple #[.agg #[.int .i64 x1, .int .i64 x2, .int .i64 x3, .int .i64 x4, .int .i64 x5], v])) w) : bodyPost Tryd.prog fn post Exit.ret a w := by
  refine bodyPost_ret (v := .tuple #[.agg #[.int .i64 x1, .int .i64 x2, .int .i64 x3, .int .i64 x4, .int .i64 x5], v]) ?_ hd h
  rw [results_cell_tmp hr, hp]
  simp [asAddr, run_loadVar_row w g 36 36 _ (0, 0) _ hg Tryd.underlying36 rfl (infoB x1 x2 x3 x4 x5), Result.andThen]
  simpa using hu
theorem retFlt {fn : Func} {p : Tmp} {a : Act} {w : World} {g : Nat} {x1 x2 : Int} {post : Ending → World → Prop} (hr : fn.results = #[.cell p 57]) (hp : a.tmps.getD p undef = .pointer (some ⟨g, 0, none⟩))
    (hd : a.defers = []) (hg : w.heap[g]? = some (.cells #[.int .i64 x1, .int .i64 x2] 57 (0, 0))) (h : post (.returned (fltV x1 x2)) w) : bodyPost Tryd.prog fn post Exit.ret a w :=
  bodyPost_ret (v := fltV x1 x2) (results_cell_row hr a.tmps _ g 57 _ (0, 0) _ hp hg Tryd.underlying57 rfl (infoF x1 x2)) hd h
theorem Out.drewN {lo hi : Nat} {a w : World} (h : Out lo hi a w) (m : Nat) : Out lo hi a (w.drewN m) := ⟨h.1, h.2.1, h.2.2.1, h.size, h.2.2.2.2⟩
theorem two_first {w : World} {o o2 : Obj} : ((w.alloc o).alloc o2).heap[w.heap.size]? = some o := by
  rw [Below.heap_alloc _ _ _ (by simp)]
  exact heap_alloc_new _ _
theorem self_any (b : Nat) (w : World) : Calls Tryd.prog 32 #[.pointer (some ⟨b, 0, none⟩)] w fun e w' => e = .returned (.pointer (some ⟨b, 0, none⟩)) ∧ w' = w := by
  go_enter Tryd.func32, Tryd.ntmps32
  go_wp2
  go_ret
  exact ⟨rfl, rfl⟩
section
variable {w : World} {lo hi n cap : Nat} {s : Nat → Nat} {r : Raw}
theorem spWords_any (h : RawAt w lo hi s n cap r) : Calls Tryd.prog 27 #[.pointer (some ⟨s 14, 0, none⟩)] w fun e w' => e = .returned (.int .i64 ((64 * n : Nat) : Int)) ∧ w' = w := by
  obtain ⟨c0, c1, c2, c3, c4, c5⟩ := h.cells
  clear h
  go_enter Tryd.func27, Tryd.ntmps27
  go_wp2_with (go_at_call 32; refine calls_same (self_any _ _) ?_)
  go_ret
  exact ⟨rfl, rfl⟩
theorem spHas_any (h : RawAt w lo hi s n cap r) (a : Int) : Calls Tryd.prog 43 #[.pointer (some ⟨s 14, 0, none⟩), .int .i64 a] w fun e w' => e = .returned (.bool (inB (64 * n) a)) ∧ w' = w := by
  have HW := hid_mk (spWords_any h)
  have h2 := h.n2
  generalize 64 * n = m at *
  clear h
  unfold inB
  by_cases h0 : 0 ≤ a
  · go_enter Tryd.func43, Tryd.ntmps43
    go_wp2_with (go_at_call 27; refine calls_same HW.out ?_)
    go_ret
    exact ⟨ret_bool (by simp [h0]), rfl⟩
  · have h0' : a < 0 := by omega
    go_enter Tryd.func43, Tryd.ntmps43
    go_wp2_with (go_at_call 27; refine calls_same HW.out ?_)
    go_ret
    exact ⟨ret_bool (by simp [h0]; try omega), rfl⟩
def peekV (n : Nat) (W : Nat → Int) (a : Int) : Int := if inB (64 * n) a then W a.toNat else 0
theorem peek_any (h : RawAt w lo hi s n cap r) (a : Int) : Calls Tryd.prog 22 #[.pointer (some ⟨s 14, 0, none⟩), .int .i64 a] w fun e w' => e = .returned (.tuple #[.int .i64 (peekV n r.W a), .bool (inB (64 * n) a)]) ∧ w' = w := by
  have HH := hid_mk (spHas_any h a)
  obtain ⟨c0, c1, c2, c3, c4, c5⟩ := h.cells
  have h2 := h.n2
  by_cases hi' : inB (64 * n) a = true
  · obtain ⟨k, rfl, hk, hk2⟩ := inB_nat hi'
    have hc := h.words.cell hk
    have hv : peekV n r.W (k : Int) = r.W k := by unfold peekV; rw [if_pos hi', hk2]
    have b1 : (0 : Int) ≤ (k : Int) := by omega
    have b2 : (k : Int) < ((64 * n : Nat) : Int) := by omega
    have b3 : ((64 * n : Nat) : Int) ≤ 262144 := by omega
    rw [hi'] at HH ⊢
    rw [hv]
    generalize r.W k = v at *
    generalize 64 * n = m at *
    clear h hv hi' hk hk2 h2
    go_enter Tryd.func22, Tryd.ntmps22
    go_wp2_with (go_at_call 43; refine calls_same HH.out ?_)
    go_ret2
    exact ⟨rfl, rfl⟩
  · have hf : inB (64 * n) a = false := by simpa using hi'
    have hv : peekV n r.W a = 0 := by unfold peekV; rw [hf]; rfl
    rw [hf] at HH ⊢
    rw [hv]
    clear h hv hi'
    go_enter Tryd.func22, Tryd.ntmps22
    go_wp2_with (go_at_call 43; refine calls_same HH.out ?_)
    go_ret2
    exact ⟨rfl, rfl⟩
theorem Row.upd {w : World} {b k : Nat} {T : TypeId} {W : Nat → Int} (h : Row w b T k (fun i => .int .i64 (W i))) (a : Nat) (v : Int) : Row (w.setCell ⟨b, a, none⟩ (.int .i64 v)) b T k (fun i => .int .i64 (updW W a v i)) :=
  (h.set a (.int .i64 v)).congr fun i _ => by unfold updW; split <;> rfl
theorem RawAt.poke (h : RawAt w lo hi s n cap r) (a : Nat) (v : Int) : RawAt (w.setCell ⟨s 11, a, none⟩ (.int .i64 v)) lo hi s n cap { r with W := updW r.W a v } ∧ Out (s 11) (s 11 + 1) w (w.setCell ⟨s 11, a, none⟩ (.int .i64 v)) := by
  have o : Out (s 11) (s 11 + 1) w (w.setCell ⟨s 11, a, none⟩ (.int .i64 v)) := (Out.refl _ _ _).setCell (.inl ⟨Nat.le_refl _, Nat.lt_succ_self _⟩) _
  exact ⟨h.setW o (h.words.upd a v), o⟩
def pokeW (n : Nat) (W : Nat → Int) (a v : Int) : Nat → Int := if inB (64 * n) a then updW W a.toNat v else W
theorem poke_any (h : RawAt w lo hi s n cap r) (a v : Int) : Calls Tryd.prog 23 #[.pointer (some ⟨s 14, 0, none⟩), .int .i64 a, .int .i64 v] w fun e w' => e = .returned (.bool (inB (64 * n) a)) ∧ RawAt w' lo hi s n cap { r with W := pokeW n r.W a v } ∧ Out lo hi w w' := by
  have HH := hid_mk (spHas_any h a)
  obtain ⟨c0, c1, c2, c3, c4, c5⟩ := h.cells
  have h2 := h.n2
  by_cases hi' : inB (64 * n) a = true
  · obtain ⟨k, rfl, hk, hk2⟩ := inB_nat hi'
    have hc := h.words.cell hk
    have hfz := h.words.frozen k
    have hv : pokeW n r.W (k : Int) v = updW r.W k v := by unfold pokeW; rw [if_pos hi', hk2]
    have b1 : (0 : Int) ≤ (k : Int) := by omega
    have b2 : (k : Int) < ((64 * n : Nat) : Int) := by omega
    have b3 : ((64 * n : Nat) : Int) ≤ 262144 := by omega
    have HP := hid_mk (h.poke k v)
    have HW := hid_mk (h.wide (i := 11) (by omega) HP.out.2)
    rw [hi'] at HH ⊢
    rw [hv]
    generalize r.W k = u at *
    generalize hm : 64 * n = m at *
    clear h hv hi' hk hk2 h2 hm
    go_enter Tryd.func23, Tryd.ntmps23
    go_wp2_with (go_at_call 43; refine calls_same HH.out ?_)
    go_ret
    exact ⟨rfl, HP.out.1, HW.out⟩
  · have hf : inB (64 * n) a = false := by simpa using hi'
    have hv : pokeW n r.W a v = r.W := by unfold pokeW; rw [hf]; rfl
    have HP := hid_mk h
    rw [hf] at HH ⊢
    rw [hv]
    clear h hv hi'
    go_enter Tryd.func23, Tryd.ntmps23
    go_wp2_with (go_at_call 43; refine calls_same HH.out ?_)
    go_ret
    exact ⟨rfl, HP.out, Out.refl _ _ _⟩
theorem RawAt.look (h : RawAt w lo hi s n cap r) (c : Bool) (a : Int) : (Instr.lookup 77 (.map (some (s 12))) (.int .i64 a) c).run Tryd.prog w =
    .ok (if c then .tuple #[(mapM r.M a).getD (.agg #[.int .i64 0, .int .i64 0, .int .i64 0, .int .i64 0, .int .i64 0]), .bool (mapM r.M a).isSome] else (mapM r.M a).getD (.agg #[.int .i64 0, .int .i64 0, .int .i64 0, .int .i64 0, .int .i64 0])) w :=
  mp_look c Tryd.underlying77 Tryd.underlying3 (zero_block w) h.objs a
theorem RawAt.find (h : RawAt w lo hi s n cap r) (c : Bool) (a : Int) : (Instr.lookup 80 (.map (some (s 13))) (.int .i64 a) c).run Tryd.prog w =
    .ok (if c then .tuple #[(mapR r.R a).getD (.int .i64 0), .bool (mapR r.R a).isSome] else (mapR r.R a).getD (.int .i64 0)) w :=
  mp_look c Tryd.underlying80 Tryd.underlying3 (zero_int w) h.sers a
theorem block_some (h : RawAt w lo hi s n cap r) {a k z x t : Int} (hm : r.M a = some (k, z, x, t)) : Calls Tryd.prog 14 #[.pointer (some ⟨s 14, 0, none⟩), .int .i64 a] w fun e w' => e = .returned (.tuple #[.agg #[.int .i64 a, .int .i64 k, .int .i64 z, .int .i64 x, .int .i64 t], .bool true]) ∧ Out 0 0 w w' := by
  have h' := h.quiet ((Out.refl 0 0 w).alloc (.cells #[.int .i64 0, .int .i64 0, .int .i64 0, .int .i64 0, .int .i64 0] 36))
  obtain ⟨c0, c1, c2, c3, c4, c5⟩ := h'.cells
  have hl := h'.look true a
  have e1 : mapM r.M a = some (.agg #[.int .i64 a, .int .i64 k, .int .i64 z, .int .i64 x, .int .i64 t]) := by unfold mapM; rw [hm]; rfl
  rw [e1] at hl
  simp only [Option.getD_some, Option.isSome_some, if_true] at hl
  clear h h' e1 hm
  go_enter Tryd.func14, Tryd.ntmps14
  go_wp2_with (go_at_call 32; refine calls_same (self_any _ _) ?_)
  refine retBlk2 (g := w.heap.size) Tryd.results14 rfl rfl rfl two_first ⟨rfl, ((Out.refl _ _ _).alloc _).alloc _⟩
theorem block_none (h : RawAt w lo hi s n cap r) {a : Int} (hm : r.M a = none) : Calls Tryd.prog 14 #[.pointer (some ⟨s 14, 0, none⟩), .int .i64 a] w fun e w' => e = .returned (.tuple #[.agg #[.int .i64 0, .int .i64 0, .int .i64 0, .int .i64 0, .int .i64 0], .bool false]) ∧ Out 0 0 w w' := by
  have h' := h.quiet ((Out.refl 0 0 w).alloc (.cells #[.int .i64 0, .int .i64 0, .int .i64 0, .int .i64 0, .int .i64 0] 36))
  obtain ⟨c0, c1, c2, c3, c4, c5⟩ := h'.cells
  have hl := h'.look true a
  have e1 : mapM r.M a = none := by unfold mapM; rw [hm]; rfl
  rw [e1] at hl
  simp only [Option.getD_none, Option.isSome_none, if_true] at hl
  clear h h' e1 hm
  go_enter Tryd.func14, Tryd.ntmps14
  go_wp2_with (go_at_call 32; refine calls_same (self_any _ _) ?_)
  refine retBlk2 (g := w.heap.size) Tryd.results14 rfl rfl rfl two_first ⟨rfl, ((Out.refl _ _ _).alloc _).alloc _⟩
theorem spFind_any (h : RawAt w lo hi s n cap r) (a : Int) : Calls Tryd.prog 15 #[.pointer (some ⟨s 14, 0, none⟩), .int .i64 a] w fun e w' => e = .returned (.tuple #[.int .i64 ((r.R a).getD 0), .bool (r.R a).isSome]) ∧ w' = w := by
  obtain ⟨c0, c1, c2, c3, c4, c5⟩ := h.cells
  have hl := h.find true a
  cases hm : r.R a with
  | some v =>
    have e1 : mapR r.R a = some (.int .i64 v) := by unfold mapR; rw [hm]; rfl
    rw [e1] at hl
    simp only [Option.getD_some, Option.isSome_some, if_true] at hl ⊢
    clear h e1 hm
    go_enter Tryd.func15, Tryd.ntmps15
    go_wp2_with (go_at_call 32; refine calls_same (self_any _ _) ?_)
    go_ret2
    exact ⟨rfl, rfl⟩
  | none =>
    have e1 : mapR r.R a = none := by unfold mapR; rw [hm]; rfl
    rw [e1] at hl
    simp only [Option.getD_none, Option.isSome_none, if_true] at hl ⊢
    clear h e1 hm
    go_enter Tryd.func15, Tryd.ntmps15
    go_wp2_with (go_at_call 32; refine calls_same (self_any _ _) ?_)
    go_ret2
    exact ⟨rfl, rfl⟩
set_option maxHeartbeats 1000000 in
theorem headed_any (h : RawAt w lo hi s n cap r) {a : Nat} (ha : a < 64 * n) (k z x t : Int) : Calls Tryd.prog 44 #[.pointer (some ⟨s 14, 0, none⟩), .agg #[.int .i64 (a : Int), .int .i64 k, .int .i64 z, .int .i64 x, .int .i64 t]] w fun e w' => e = .returned (.bool (r.W a == makeV a k z)) ∧ Out 0 0 w w' := by
  have h' := h.quiet ((Out.refl 0 0 w).alloc (.cells #[.int .i64 (a : Int), .int .i64 k, .int .i64 z, .int .i64 x, .int .i64 t] 36))
  obtain ⟨c0, c1, c2, c3, c4, c5⟩ := h'.cells
  have h2 := h.n2
  have hc := h'.words.cell ha
  have b1 : (0 : Int) ≤ (a : Int) := by omega
  have b2 : (a : Int) < ((64 * n : Nat) : Int) := by omega
  have b3 : ((64 * n : Nat) : Int) ≤ 262144 := by omega
  have HM := hid_mk (fun w => hmake_any (a : Int) k z w)
  generalize makeV (a : Int) k z = mv at *
  generalize r.W a = u at *
  generalize 64 * n = m at *
  clear h h' ha h2
  go_enter Tryd.func44, Tryd.ntmps44
  go_wp2_with fail
  go_quiet (first | (go_at_call 65; exact Calls.quiet_of_same (HM.out _)))
  go_wp2
  go_ret
  exact ⟨rfl, ((Out.refl 0 0 w).alloc _).drewN _⟩
end
end Go.Proofs.YtjbbkeoolodeaabDoor
namespace Go.Proofs.YtjbbkeoolodeaabDoor
open Go.RowKit
set_option linter.unusedVariables false
set_option linter.unusedSimpArgs false

theorem out_two {w w1 w2 : World} (h : Out 0 0 w w1) (g : Below w1.heap.size w1 w2) : Out 0 0 w w2 := h.trans (Out.of_below g _ _)
theorem calls_out {f : FuncId} {args : Array Value} {v : Value} {w : World} {w0 : World} (h : Calls Tryd.prog f args w (fun e w' => e = .returned v ∧ Below w.heap.size w w')) (h0 : Out 0 0 w0 w) : Calls Tryd.prog f args w (fun e w' => e = .returned v ∧ Out 0 0 w0 w') :=
  h.mono fun _ _ ⟨he, hb⟩ => ⟨he, out_two h0 hb⟩
theorem roomN_big {s : Int} (h : 32 < s) (h2 : s ≤ 1024) : ((roomN s : Nat) : Int) = pagesV s * 64 ∧ 0 < pagesV s ∧ pagesV s ≤ 16 := by
  unfold roomN pagesV
  rw [if_pos h, if_pos ⟨h, h2⟩]
  omega
theorem roomN_small {s : Int} (h1 : 1 ≤ s) (h : s ≤ 32) : ((roomN s : Nat) : Int) = wordsV (ofV s) ∧ pagesV s = 0 := by
  have := of_small h1 h
  unfold roomN wN pagesV
  rw [if_neg (by omega), if_neg (by omega)]
  omega
theorem room_any (s : Int) (h1 : 1 ≤ s) (h2 : s ≤ 1024) (w : World) : Calls Tryd.prog 64 #[.int .i64 s] w fun e w' => e = .returned (.int .i64 (roomN s : Nat)) ∧ Out 0 0 w w' := by
  have HP := hid_mk (calls_out (pages_any s w) (Out.refl 0 0 w))
  by_cases h : 32 < s
  · obtain ⟨e1, e2, e3⟩ := roomN_big h h2
    rw [e1]
    generalize pagesV s = k at *
    clear h h1 h2 e1
    go_enter Tryd.func64, Tryd.ntmps64
    go_wp2_with (go_at_call 59; refine HP.out.mono ?_; rintro e w1 ⟨rfl, ho⟩)
    go_ret
    exact ⟨rfl, ho⟩
  · obtain ⟨e1, e2⟩ := roomN_small h1 (by omega)
    rw [e1]
    rw [e2] at HP
    have HO := hid_mk (fun w' (h : Out 0 0 w w') => calls_out (of_any s w') h)
    have HW := hid_mk (fun w' (h : Out 0 0 w w') => calls_out (cwords_any (ofV s) w') h)
    generalize ofV s = c at *
    generalize wordsV c = k at *
    clear h h1 h2 e1 e2
    go_enter Tryd.func64, Tryd.ntmps64
    go_wp2_with (first
      | (go_at_call 59; refine HP.out.mono ?_; rintro e w1 ⟨rfl, ho⟩)
      | (go_at_call 62; refine (HO.out _ ho).mono ?_; rintro e w2 ⟨rfl, ho2⟩)
      | (go_at_call 84; refine (HW.out _ ho2).mono ?_; rintro e w3 ⟨rfl, ho3⟩))
    go_ret
    exact ⟨rfl, ho3⟩
section
variable {w : World} {lo hi n cap : Nat} {s : Nat → Nat} {r : Raw}
/-- what Check tells: the error, its place -/
def chkE (r : Raw) (a : Int) : Int := match r.M a with | none => 22 | some b => if r.W a.toNat = makeV a b.1 b.2.1 then 0 else 21
def chkA (r : Raw) (a : Int) : Int := match r.M a with | none => 0 | some b => if r.W a.toNat = makeV a b.1 b.2.1 then 0 else a
/-- objects stand in the arena -/
def InArena (n : Nat) (r : Raw) : Prop := ∀ a b, r.M a = some b → 0 ≤ a ∧ a + b.2.1 ≤ 64 * n ∧ 1 ≤ b.2.1 ∧ b.2.1 ≤ 1024
theorem flt_facts {w : World} {g : Nat} {x y : Int} {T : TypeId} (h : w.heap[g]? = some (.cells #[.int .i64 x, .int .i64 y] T (0, 0))) :
    w.cell? ⟨g, 0, none⟩ = some (.int .i64 x) ∧ w.cell? ⟨g, 1, none⟩ = some (.int .i64 y) ∧ w.frozen? ⟨g, 0, none⟩ = false ∧ w.frozen? ⟨g, 1, none⟩ = false := by
  refine ⟨?_, ?_, ?_, ?_⟩ <;> simp [World.cell?, World.frozen?, h]
theorem flt_set {w : World} {g : Nat} {x y x' y' : Int} {T : TypeId} (h : w.heap[g]? = some (.cells #[.int .i64 x, .int .i64 y] T (0, 0))) :
    ((w.setCell ⟨g, 0, none⟩ (.int .i64 x')).setCell ⟨g, 1, none⟩ (.int .i64 y')).heap[g]? = some (.cells #[.int .i64 x', .int .i64 y'] T (0, 0)) := by
  simp [World.setCell, Array.getElem?_modify, h]
theorem Out.set2 {lo hi : Nat} {a w : World} (h : Out lo hi a w) {b o o' : Nat} (hp : (lo ≤ b ∧ b < hi) ∨ a.heap.size ≤ b) (x y : Value) : Out lo hi a ((w.setCell ⟨b, o, none⟩ x).setCell ⟨b, o', none⟩ y) :=
  (h.setCell (p := ⟨b, o, none⟩) hp x).setCell (p := ⟨b, o', none⟩) hp y
def bz : Obj := .cells #[.int .i64 0, .int .i64 0, .int .i64 0, .int .i64 0, .int .i64 0] 36
def bo (a k z x t : Int) : Obj := .cells #[.int .i64 a, .int .i64 k, .int .i64 z, .int .i64 x, .int .i64 t] 36
def fz : Obj := .cells #[.int .i64 0, .int .i64 0] 57
theorem bo_facts {w : World} {g : Nat} {a k z x t : Int} (h : w.heap[g]? = some (bo a k z x t)) :
    w.cell? ⟨g, 0, none⟩ = some (.int .i64 a) ∧ w.cell? ⟨g, 1, none⟩ = some (.int .i64 k) ∧ w.cell? ⟨g, 2, none⟩ = some (.int .i64 z) ∧ w.cell? ⟨g, 3, none⟩ = some (.int .i64 x) ∧ w.cell? ⟨g, 4, none⟩ = some (.int .i64 t) := by
  unfold bo at h
  refine ⟨?_, ?_, ?_, ?_, ?_⟩ <;> simp [World.cell?, h]
set_option maxHeartbeats 1000000 in
theorem check_any (h : RawAt w lo hi s n cap r) (hM : InArena n r) (a : Int) : Calls Tryd.prog 24 #[.pointer (some ⟨s 14, 0, none⟩), .int .i64 a] w fun e w' => e = .returned (fltV (chkE r a) (chkA r a)) ∧ Out 0 0 w w' := by
  have h0 : Out 0 0 w (w.alloc (.cells #[.int .i64 0, .int .i64 0] 57)) := (Out.refl 0 0 w).alloc _
  have hz : (w.alloc (.cells #[.int .i64 0, .int .i64 0] 57)).heap[w.heap.size]? = some (.cells #[.int .i64 0, .int .i64 0] 57 (0, 0)) := heap_alloc_new _ _
  have HZ := hid_mk hz
  have H0 := hid_mk h0
  cases hm : r.M a with
  | none =>
    have HB := hid_mk (block_none (h.quiet h0) hm)
    have e1 : chkE r a = 22 := by unfold chkE; rw [hm]
    have e2 : chkA r a = 0 := by unfold chkA; rw [hm]
    rw [e1, e2]
    clear h hM hm e1 e2 h0 hz
    go_enter Tryd.func24, Tryd.ntmps24
    go_wp2_with (go_at_call 14; refine HB.out.mono ?_; rintro e w1 ⟨rfl, ho⟩; obtain ⟨q0, q1, q2, q3⟩ := flt_facts ((ho.alloc (.cells #[.int .i64 0, .int .i64 0, .int .i64 0, .int .i64 0, .int .i64 0] 36)).heap HZ.out (.inr (Nat.zero_le _))); have HO := hid_mk ho; clear ho)
    refine retFlt Tryd.results24 rfl rfl (flt_set ((HO.out.alloc _).heap HZ.out (.inr (Nat.zero_le _)))) ⟨rfl, ((H0.out.trans HO.out).alloc _).set2 (.inr (Nat.le_refl _)) _ _⟩
  | some b =>
    obtain ⟨k, z, x, t⟩ := b
    obtain ⟨a0, a1', a2', a3'⟩ := hM a _ hm
    have a1 : a < 64 * n := by simp only at a1' a2'; omega
    clear a1' a2' a3'
    obtain ⟨c, rfl⟩ : ∃ c : Nat, a = c := ⟨a.toNat, by omega⟩
    have HB := hid_mk (block_some (h.quiet h0) hm)
    have HH := hid_mk (fun w' (o : Out 0 0 w w') => headed_any (h.quiet o) (a := c) (by omega) k z x t)
    have e1 : chkE r (c : Int) = if r.W c = makeV c k z then 0 else 21 := by unfold chkE; rw [hm]; rfl
    have e2 : chkA r (c : Int) = if r.W c = makeV c k z then 0 else (c : Int) := by unfold chkA; rw [hm]; rfl
    rw [e1, e2]
    have b0 : (0 : Int) ≤ (c : Int) := by omega
    generalize hcc : (c : Int) = a at *
    by_cases hv : r.W c = makeV a k z
    · rw [if_pos hv, if_pos hv]
      have hb : (r.W c == makeV a k z) = true := by simp [hv]
      rw [hb] at HH
      clear h hM hm e1 e2 h0 hz hv hb a1
      go_enter Tryd.func24, Tryd.ntmps24
      go_wp2_with (first
        | (go_at_call 14; refine HB.out.mono ?_; rintro e w1 ⟨rfl, ho⟩; obtain ⟨q0, q1, q2, q3⟩ := flt_facts ((ho.alloc (.cells #[.int .i64 a, .int .i64 k, .int .i64 z, .int .i64 x, .int .i64 t] 36)).heap HZ.out (.inr (Nat.zero_le _))); have HO := hid_mk (ho.alloc (.cells #[.int .i64 a, .int .i64 k, .int .i64 z, .int .i64 x, .int .i64 t] 36)); clear ho)
        | (go_at_call 44; refine (HH.out _ (H0.out.trans HO.out)).mono ?_; rintro e w2 ⟨rfl, ho⟩; obtain ⟨q4, q5, q6, q7⟩ := flt_facts ((HO.out.trans ho).heap HZ.out (.inr (Nat.zero_le _))); have HO2 := hid_mk (HO.out.trans ho); clear ho q0 q1 q2 q3))
      refine retFlt Tryd.results24 rfl rfl (flt_set (HO2.out.heap HZ.out (.inr (Nat.zero_le _)))) ⟨rfl, (H0.out.trans HO2.out).set2 (.inr (Nat.le_refl _)) _ _⟩
    · rw [if_neg hv, if_neg hv]
      have hb : (r.W c == makeV a k z) = false := by simp [hv]
      rw [hb] at HH
      clear h hM hm e1 e2 h0 hz hv hb a1
      go_enter Tryd.func24, Tryd.ntmps24
      go_wp2_with (first
        | (go_at_call 14; refine HB.out.mono ?_; rintro e w1 ⟨rfl, ho⟩; obtain ⟨q0, q1, q2, q3⟩ := flt_facts ((ho.alloc (.cells #[.int .i64 a, .int .i64 k, .int .i64 z, .int .i64 x, .int .i64 t] 36)).heap HZ.out (.inr (Nat.zero_le _))); have HO := hid_mk (ho.alloc (.cells #[.int .i64 a, .int .i64 k, .int .i64 z, .int .i64 x, .int .i64 t] 36)); clear ho)
        | (go_at_call 44; refine (HH.out _ (H0.out.trans HO.out)).mono ?_; rintro e w2 ⟨rfl, ho⟩; obtain ⟨q4, q5, q6, q7⟩ := flt_facts ((HO.out.trans ho).heap HZ.out (.inr (Nat.zero_le _))); have HO2 := hid_mk (HO.out.trans ho); clear ho q0 q1 q2 q3))
      refine retFlt Tryd.results24 rfl rfl (flt_set (HO2.out.heap HZ.out (.inr (Nat.zero_le _)))) ⟨rfl, (H0.out.trans HO2.out).set2 (.inr (Nat.le_refl _)) _ _⟩
def wrdE (r : Raw) (a i : Int) : Int := match r.M a with | none => 22 | some b => if r.W a.toNat = makeV a b.1 b.2.1 then (if i < 1 ∨ b.2.1 ≤ i then 23 else 0) else 21
theorem wrdA (r : Raw) (a i : Int) (h : chkE r a ≠ 0) : wrdE r a i = chkE r a := by
  unfold wrdE
  unfold chkE at h ⊢
  cases hm : r.M a with
  | none => rfl
  | some b =>
    rw [hm] at h
    by_cases hv : r.W a.toNat = makeV a b.1 b.2.1
    · exact absurd (by simp [hv]) h
    · simp [hv]
theorem chk0 {r : Raw} {a : Int} (h : chkE r a = 0) : chkA r a = 0 ∧ ∃ b, r.M a = some b ∧ r.W a.toNat = makeV a b.1 b.2.1 := by
  unfold chkE at h
  unfold chkA
  cases hm : r.M a with
  | none => rw [hm] at h; simp at h
  | some b =>
    rw [hm] at h
    by_cases hv : r.W a.toNat = makeV a b.1 b.2.1
    · exact ⟨by simp [hv], b, rfl, hv⟩
    · simp [hv] at h
set_option maxHeartbeats 1000000 in
theorem checkWord_any (h : RawAt w lo hi s n cap r) (hM : InArena n r) (a i : Int) : Calls Tryd.prog 45 #[.pointer (some ⟨s 14, 0, none⟩), .int .i64 a, .int .i64 i] w fun e w' => e = .returned (fltV (wrdE r a i) (chkA r a)) ∧ Out 0 0 w w' := by
  have h0 : Out 0 0 w (w.alloc (.cells #[.int .i64 0, .int .i64 0] 57)) := (Out.refl 0 0 w).alloc _
  have hz : (w.alloc (.cells #[.int .i64 0, .int .i64 0] 57)).heap[w.heap.size]? = some (.cells #[.int .i64 0, .int .i64 0] 57 (0, 0)) := heap_alloc_new _ _
  have HZ := hid_mk hz
  have H0 := hid_mk h0
  have HC := hid_mk (check_any (h.quiet h0) hM a)
  unfold fltV at HC
  by_cases hc : chkE r a = 0
  · obtain ⟨e2, ⟨k, z, x, t⟩, hm, hv⟩ := chk0 hc
    rw [hc, e2] at HC
    rw [e2]
    have HB := hid_mk (fun w' (o : Out 0 0 w w') => block_some (h.quiet o) hm)
    have e3 : wrdE r a i = if i < 1 ∨ z ≤ i then 23 else 0 := by unfold wrdE; rw [hm]; simp only; rw [if_pos hv]
    rw [e3]
    have e4 : ((0 : Int) != 0) = false := rfl
    by_cases h1 : i < 1
    · rw [if_pos (.inl h1)]
      clear h hM hm e2 e3 h0 hz hv hc
      go_enter Tryd.func45, Tryd.ntmps45
      go_wp2_with (first
        | (go_at_call 24; refine HC.out.mono ?_; rintro e w1 ⟨rfl, ho⟩; have HO := hid_mk (ho.alloc (.cells #[.int .i64 0, .int .i64 0] 57)); clear ho)
        | (go_at_call 14; refine (HB.out _ (H0.out.trans HO.out)).mono ?_; rintro e w2 ⟨rfl, ho⟩; obtain ⟨q4, q5, q6, q7⟩ := flt_facts (((HO.out.trans ho).alloc (.cells #[.int .i64 a, .int .i64 k, .int .i64 z, .int .i64 x, .int .i64 t] 36)).heap HZ.out (.inr (Nat.zero_le _))); have HO2 := hid_mk ((HO.out.trans ho).alloc (.cells #[.int .i64 a, .int .i64 k, .int .i64 z, .int .i64 x, .int .i64 t] 36)); clear ho))
      refine retFlt Tryd.results45 rfl rfl (flt_set (HO2.out.heap HZ.out (.inr (Nat.zero_le _)))) ⟨rfl, (H0.out.trans HO2.out).set2 (.inr (Nat.le_refl _)) _ _⟩
    · have h1' : 1 ≤ i := by omega
      by_cases h2 : z ≤ i
      · rw [if_pos (.inr h2)]
        clear h hM hm e2 e3 h0 hz hv hc h1
        go_enter Tryd.func45, Tryd.ntmps45
        go_wp2_with (first
          | (go_at_call 24; refine HC.out.mono ?_; rintro e w1 ⟨rfl, ho⟩; have HO := hid_mk (ho.alloc (.cells #[.int .i64 0, .int .i64 0] 57)); clear ho)
          | (go_at_call 14; refine (HB.out _ (H0.out.trans HO.out)).mono ?_; rintro e w2 ⟨rfl, ho⟩; obtain ⟨q4, q5, q6, q7⟩ := flt_facts (((HO.out.trans ho).alloc (.cells #[.int .i64 a, .int .i64 k, .int .i64 z, .int .i64 x, .int .i64 t] 36)).heap HZ.out (.inr (Nat.zero_le _))); have HO2 := hid_mk ((HO.out.trans ho).alloc (.cells #[.int .i64 a, .int .i64 k, .int .i64 z, .int .i64 x, .int .i64 t] 36)); clear ho))
        refine retFlt Tryd.results45 rfl rfl (flt_set (HO2.out.heap HZ.out (.inr (Nat.zero_le _)))) ⟨rfl, (H0.out.trans HO2.out).set2 (.inr (Nat.le_refl _)) _ _⟩
      · rw [if_neg (by omega)]
        have h2' : i < z := by omega
        clear h hM hm e2 e3 h0 hz hv hc h1 h2
        go_enter Tryd.func45, Tryd.ntmps45
        go_wp2_with (first
          | (go_at_call 24; refine HC.out.mono ?_; rintro e w1 ⟨rfl, ho⟩; have HO := hid_mk (ho.alloc (.cells #[.int .i64 0, .int .i64 0] 57)); clear ho)
          | (go_at_call 14; refine (HB.out _ (H0.out.trans HO.out)).mono ?_; rintro e w2 ⟨rfl, ho⟩; obtain ⟨q4, q5, q6, q7⟩ := flt_facts (((HO.out.trans ho).alloc (.cells #[.int .i64 a, .int .i64 k, .int .i64 z, .int .i64 x, .int .i64 t] 36)).heap HZ.out (.inr (Nat.zero_le _))); have HO2 := hid_mk ((HO.out.trans ho).alloc (.cells #[.int .i64 a, .int .i64 k, .int .i64 z, .int .i64 x, .int .i64 t] 36)); clear ho))
        refine retFlt Tryd.results45 rfl rfl (flt_set (HO2.out.heap HZ.out (.inr (Nat.zero_le _)))) ⟨rfl, (H0.out.trans HO2.out).set2 (.inr (Nat.le_refl _)) _ _⟩
  · rw [wrdA r a i hc]
    have e4 : (chkE r a != 0) = true := by simpa using hc
    generalize chkE r a = u at *
    generalize chkA r a = v at *
    clear h hM h0 hz hc
    go_enter Tryd.func45, Tryd.ntmps45
    go_wp2_with (first
      | (go_at_call 24; refine HC.out.mono ?_; rintro e w1 ⟨rfl, ho⟩; obtain ⟨q4, q5, q6, q7⟩ := flt_facts ((ho.alloc (.cells #[.int .i64 u, .int .i64 v] 57)).heap HZ.out (.inr (Nat.zero_le _))); have HO := hid_mk (ho.alloc (.cells #[.int .i64 u, .int .i64 v] 57)); clear ho))
    refine retFlt Tryd.results45 rfl rfl (flt_set (HO.out.heap HZ.out (.inr (Nat.zero_le _)))) ⟨rfl, (H0.out.trans HO.out).set2 (.inr (Nat.le_refl _)) _ _⟩
end
end Go.Proofs.YtjbbkeoolodeaabDoor
namespace Go.Proofs.YtjbbkeoolodeaabDoor
open Go.RowKit
set_option linter.unusedVariables false
set_option linter.unusedSimpArgs false

section
variable {w : World} {lo hi n cap : Nat} {s : Nat → Nat} {r : Raw}
def wrW (r : Raw) (a i v : Int) : Nat → Int := if wrdE r a i = 0 then updW r.W (a + i).toNat v else r.W
theorem wrd0 {r : Raw} {n : Nat} {a i : Int} (hM : InArena n r) (h : wrdE r a i = 0) : chkA r a = 0 ∧ ∃ j : Nat, a + i = j ∧ j < 64 * n ∧ 0 ≤ a ∧ 1 ≤ i := by
  unfold wrdE at h
  unfold chkA
  cases hm : r.M a with
  | none => rw [hm] at h; simp at h
  | some b =>
    rw [hm] at h
    simp only at h ⊢
    obtain ⟨m1, m2, m3, m4⟩ := hM a b hm
    by_cases hv : r.W a.toNat = makeV a b.1 b.2.1
    · rw [if_pos hv] at h ⊢
      by_cases hi : i < 1 ∨ b.2.1 ≤ i
      · rw [if_pos hi] at h; omega
      · exact ⟨rfl, (a + i).toNat, by omega, by omega, m1, by omega⟩
    · rw [if_neg hv] at h; omega
set_option maxHeartbeats 1000000 in
theorem write_any (h : RawAt w lo hi s n cap r) (hM : InArena n r) (a i v : Int) : Calls Tryd.prog 29 #[.pointer (some ⟨s 14, 0, none⟩), .int .i64 a, .int .i64 i, .int .i64 v] w fun e w' => e = .returned (fltV (wrdE r a i) (chkA r a)) ∧ RawAt w' lo hi s n cap { r with W := wrW r a i v } ∧ Out lo hi w w' := by
  have h0 : Out 0 0 w (w.alloc (.cells #[.int .i64 0, .int .i64 0] 57)) := (Out.refl 0 0 w).alloc _
  have hz : (w.alloc (.cells #[.int .i64 0, .int .i64 0] 57)).heap[w.heap.size]? = some (.cells #[.int .i64 0, .int .i64 0] 57 (0, 0)) := heap_alloc_new _ _
  have HZ := hid_mk hz
  have H0 := hid_mk h0
  have HR := hid_mk (fun w' (o : Out 0 0 w w') => h.quiet o)
  have HT : Hid (hi ≤ w.heap.size) := h.top
  have HC := hid_mk (checkWord_any (h.quiet h0) hM a i)
  unfold fltV at HC
  by_cases hc : wrdE r a i = 0
  · obtain ⟨e2, j, hj, j1, j2, j3⟩ := wrd0 hM hc
    have e3 : wrW r a i v = updW r.W (a + i).toNat v := by unfold wrW; rw [if_pos hc]
    rw [hc, e2] at HC
    rw [hc, e2, e3]
    have hn := h.n2
    have b1 : (0 : Int) ≤ a + i := by omega
    have b2 : a + i < ((64 * n : Nat) : Int) := by omega
    have b3 : ((64 * n : Nat) : Int) ≤ 262144 := by omega
    have J1 : Hid ((a + i).toNat < 64 * n) := by show _ < _; omega
    have NG : Hid (4 ≤ w.heap.size) := h.tab.lt
    have h11 : s 11 < w.heap.size := by have := (h.inn 11 (by omega)).2; have := h.top; simp [ln] at *; omega
    generalize hm : 64 * n = m at *
    clear h hM h0 hz hc e2 e3 hj j1 hn
    go_enter Tryd.func29, Tryd.ntmps29
    go_wp2_with (first
      | (go_at_call 45; refine HC.out.mono ?_; rintro e w1 ⟨rfl, ho⟩; obtain ⟨q4, q5, q6, q7⟩ := flt_facts ((ho.alloc (.cells #[.int .i64 0, .int .i64 0] 57)).heap HZ.out (.inr (Nat.zero_le _))); obtain ⟨q0, q1, q2, q3⟩ := flt_facts (heap_alloc_new w1 (.cells #[.int .i64 0, .int .i64 0] 57)); have HO := hid_mk (ho.alloc (.cells #[.int .i64 0, .int .i64 0] 57)); obtain ⟨c0, c1, c2, c3, c4, c5⟩ := (HR.out _ (H0.out.trans HO.out)).cells; have hcell := (HR.out _ (H0.out.trans HO.out)).words.cell (i := (a + i).toNat) (by rw [hm]; exact J1.out); have hfz := (HR.out _ (H0.out.trans HO.out)).words.frozen (a + i).toNat; have n1 : s 11 ≠ w1.heap.size := (by have := (H0.out.trans ho).size; omega); have n2 : s 11 ≠ w.heap.size := (by omega); have n3 : w1.heap.size ≠ s 11 := (Ne.symm n1); have n4 : w.heap.size ≠ s 11 := (Ne.symm n2); rw [hm] at c0; clear ho))
    have HP := hid_mk ((HR.out _ (H0.out.trans HO.out)).poke (a + i).toNat v)
    have HW := hid_mk ((HR.out _ (H0.out.trans HO.out)).wide (i := 11) (by omega) HP.out.2)
    have hlt : s 11 + 1 ≤ w.heap.size := h11
    refine retFlt Tryd.results29 rfl rfl (flt_set (HP.out.2.heap (HO.out.heap HZ.out (.inr (Nat.zero_le _))) (by omega))) ⟨rfl, HP.out.1.kept ((Out.refl w.heap.size (w.heap.size + 1) _).set2 (.inl ⟨Nat.le_refl _, Nat.lt_succ_self _⟩) _ _) (.inl HT.out) (.inl NG.out), (((H0.out.trans HO.out).any lo hi).trans HW.out).set2 (.inr (Nat.le_refl _)) _ _⟩
  · have e3 : wrW r a i v = r.W := by unfold wrW; rw [if_neg hc]
    rw [e3]
    have e4 : (wrdE r a i == 0) = false := by simpa using hc
    generalize wrdE r a i = u at *
    generalize chkA r a = y at *
    clear h hM h0 hz hc
    go_enter Tryd.func29, Tryd.ntmps29
    go_wp2_with (first
      | (go_at_call 45; refine HC.out.mono ?_; rintro e w1 ⟨rfl, ho⟩; obtain ⟨q4, q5, q6, q7⟩ := flt_facts ((ho.alloc (.cells #[.int .i64 u, .int .i64 y] 57)).heap HZ.out (.inr (Nat.zero_le _))); obtain ⟨q0, q1, q2, q3⟩ := flt_facts (heap_alloc_new w1 (.cells #[.int .i64 u, .int .i64 y] 57)); have HO := hid_mk (ho.alloc (.cells #[.int .i64 u, .int .i64 y] 57)); clear ho))
    refine retFlt Tryd.results29 rfl rfl (flt_set (HO.out.heap HZ.out (.inr (Nat.zero_le _)))) ⟨rfl, (HR.out _ ((H0.out.trans HO.out).set2 (.inr (Nat.le_refl _)) _ _)), ((H0.out.trans HO.out).set2 (.inr (Nat.le_refl _)) _ _).any _ _⟩
end
end Go.Proofs.YtjbbkeoolodeaabDoor
