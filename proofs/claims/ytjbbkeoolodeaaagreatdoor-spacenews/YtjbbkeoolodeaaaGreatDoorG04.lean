import Derived.Test.YtjbbkeoolodeaaaGreatDoorG03
import Derived.Test.YtjbbkeoolodeaaaGreatDoorG00
import Derived.RangeFuncNested
import Derived.RangeFuncBound
import Derived.RangeFuncCalls
import Derived.RangeFuncLeaves
import Derived.Shelf.Abstract
import Derived.Shelf.RegionOpen
import Derived.OwnWalkIn
import Derived.TacticsInMore
import Derived.LoopNIn
import Derived.LoopIn
import Derived.ProofKit
import Derived.OpenShut
namespace Go.Proofs.YtjbbkeoolodeaaaGreatDoor
open Go.RowKit
set_option linter.unusedVariables false
set_option linter.unusedSimpArgs false

theorem info_sl0 : (Tryz.prog.info? 27).map (fun i => (i.zero, i.size, i.bytes)) = some (some (.slice none 0 0), 1, 24) := by kernel_rfl
theorem info_sl1 : (Tryz.prog.info? 70).map (fun i => (i.zero, i.size, i.bytes)) = some (some (.slice none 0 0), 1, 24) := by kernel_rfl
theorem info_sl2 : (Tryz.prog.info? 62).map (fun i => (i.zero, i.size, i.bytes)) = some (some (.slice none 0 0), 1, 24) := by kernel_rfl
theorem info_el0 : (Tryz.prog.info? 3).map (fun i => (i.zero, i.size, i.bytes)) = some (some (.int .i64 0), 1, 8) := by kernel_rfl
theorem info_el1 : (Tryz.prog.info? 155).map (fun i => (i.zero, i.size, i.bytes)) = some (some (.agg #[.int .i64 0, .int .i64 0, .int .i64 0]), 3, 24) := by kernel_rfl
theorem info_el2 : (Tryz.prog.info? 92).map (fun i => (i.zero, i.size, i.bytes)) = some (some (.agg #[.int .i64 0, .int .i64 0, .int .i64 0, .int .i64 0, .int .i64 0]), 5, 40) := by kernel_rfl
theorem cells_new (w : World) (xs : List Value) (T : TypeId) : ∀ j u, xs[j]? = some u → (w.alloc (.cells xs.toArray T)).cell? ((⟨w.heap.size, 0, none⟩ : Addr).add j) = some u := by
  intro j u h
  rw [Addr.add_lit, Nat.zero_add]
  have hb := heap_alloc_new w (.cells xs.toArray T)
  simp only [World.cell?, hb]
  simpa using h
theorem one_v (x : Value) (hx : x.oneCell' = true) : ∀ u ∈ [x], u.oneCell' = true := by
  intro u hu; simp at hu; subst hu; exact hx
theorem three_v (x y z : Int) : ∀ u ∈ [Value.int .i64 x, .int .i64 y, .int .i64 z], u.oneCell' = true := by
  intro u hu; simp at hu; rcases hu with rfl | rfl | rfl <;> rfl
theorem five_v (x y z a b : Int) : ∀ u ∈ [Value.int .i64 x, .int .i64 y, .int .i64 z, .int .i64 a, .int .i64 b], u.oneCell' = true := by
  intro u hu; simp at hu; rcases hu with rfl | rfl | rfl | rfl | rfl <;> rfl
theorem news0 (m k : Nat) (hk : k < szK 0) : ([.int .i64 (m : Int)] : List Value)[k]? = some (.int .i64 (mkF 0 m k)) := by
  have hk2 : k < 1 := hk
  have hc : k = 0 := by omega
  rcases hc with rfl <;> simp [mkF]
theorem news1 (m k : Nat) (hk : k < szK 1) : ([.int .i64 (m : Int), .int .i64 0, .int .i64 0] : List Value)[k]? = some (.int .i64 (mkF 1 m k)) := by
  have hk2 : k < 3 := hk
  have hc : k = 0 ∨ k = 1 ∨ k = 2 := by omega
  rcases hc with rfl | rfl | rfl <;> simp [mkF]
theorem news2 (m k : Nat) (hk : k < szK 2) : ([.int .i64 0, .int .i64 (m : Int), .int .i64 0, .int .i64 0, .int .i64 0] : List Value)[k]? = some (.int .i64 (mkF 2 m k)) := by
  have hk2 : k < 5 := hk
  have hc : k = 0 ∨ k = 1 ∨ k = 2 ∨ k = 3 ∨ k = 4 := by omega
  rcases hc with rfl | rfl | rfl | rfl | rfl <;> simp [mkF]
section
variable {B : Nat} {w w' : World} {b : Nat} {V : Nat → Value} {X : Nat → List Value} {C : Nat → Nat → Nat × (Nat → Nat → Int)} {col col' : Nat → Nat} {cur : Option (Nat × Nat)} {p : Nat → Nat}
theorem FullC.pushed {t m i : Nat} {v : Value} (h : FullC w col cur t v m) (e : ∀ y, y < w.heap.size → col' y = col y) (i2 : 2 ≤ i) (o : Chg col (fun c => c = 0 ∨ c = 10 + i) w w') : FullC w' col' cur t v m := by
  refine (h.recol (col' := col') fun y hy _ => e y hy).chg (o.recol fun k hk hp => by rw [← e k hk]; exact hp) (by omega) (.inr (by omega))
theorem OwnF.pushed {t n i : Nat} {v : Value} {f : Nat → Nat → Int} (h : OwnF B w t v n f) (o : Chg col (fun c => c = 0 ∨ c = 10 + i) w w') (i2 : 2 ≤ i) (hc : ∀ x, v.ownBlock = some x → col x = 8) : OwnF B w' t v n f :=
  h.chg o fun x hx => by rw [hc x hx]; omega
/-- a marking: what is kept, the list that is marked -/
def MSt (B b : Nat) (V0 : Nat → Value) (X0 : Nat → List Value) (C : Nat → Nat → Nat × (Nat → Nat → Int)) (p : Nat → Nat) (F S K : Nat) (col0 : Nat → Nat) (w0 : World) (t m : Nat) (l : Value) (n : Nat) (wr : World) (r : Nat) (V : Nat → Value) (X : Nat → List Value) (col : Nat → Nat) : Prop :=
  Kp B wr b V X C col (some (t, m)) p ∧ OwnF B wr t l n (fun _ k => mkF t m k) ∧ (∀ x, l.ownBlock = some x → col x = 8) ∧ ((X F).length = K + r ∧ (X S).length = K + r) ∧ (∀ j, j ≠ F → j ≠ S → V j = V0 j ∧ X j = X0 j) ∧ Fix col0 col w0 wr
/-- behind a marking -/
def MEnd (B b : Nat) (V0 : Nat → Value) (X0 : Nat → List Value) (C : Nat → Nat → Nat × (Nat → Nat → Int)) (p : Nat → Nat) (F S K : Nat) (col0 : Nat → Nat) (w0 wr : World) : Prop :=
  ∃ V X col, Kp B wr b V X C col none p ∧ ((X F).length = K ∧ (X S).length = K) ∧ (∀ j, j ≠ F → j ≠ S → V j = V0 j ∧ X j = X0 j) ∧ Fix col0 col w0 wr
/-- the two appends behind each other: the list among the full ones, its mark -/
theorem MSt.push1 {V0 : Nat → Value} {X0 : Nat → List Value} {F S K r t m n n' : Nat} {col0 : Nat → Nat} {w0 w1 w2 : World} {l v : Value} (h : MSt B b V0 X0 C p F S K col0 w0 t m l n w r V X col) (ht : t < 3) (hF : F = 8 + t) (hS : S = 11 + t) (hv : OwnF B w t v n' (fun _ k => mkF t m k)) (hc : ∀ x, v.ownBlock = some x → col x = 8 ∨ col x = 9) (hn : n' ≤ 1700 ∧ m ≤ 2000000)
    {g cap : Nat} (o1 : Out 0 0 w w1) (own : w2.ownsRow B (tyS F) 1 (.slice (some ⟨g, 0, none⟩) ((X F).length + 1) cap) ((X F).length + 1) (X F ++ [v])) (gr : Grew w1 w2 (V F) g) :
    w2.heap[b]? = some (.cells #[V 0, V 1, V 2, V 3, V 4, V 5, V 6, V 7, V 8, V 9, V 10, V 11, V 12, V 13] 48 (0, 0)) ∧
    ∃ V' X' col', Kp B (w2.setCell ⟨b, F, none⟩ (.slice (some ⟨g, 0, none⟩) ((X F).length + 1) cap)) b V' X' C col' (some (t, m)) p ∧ OwnF B (w2.setCell ⟨b, F, none⟩ (.slice (some ⟨g, 0, none⟩) ((X F).length + 1) cap)) t l n (fun _ k => mkF t m k) ∧ (∀ x, l.ownBlock = some x → col' x = 8) ∧ ((X' F).length = K + (r + 1) ∧ (X' S).length = K + r) ∧ (∀ j, j ≠ F → j ≠ S → V' j = V0 j ∧ X' j = X0 j) ∧ Fix col0 col' w0 (w2.setCell ⟨b, F, none⟩ (.slice (some ⟨g, 0, none⟩) ((X F).length + 1) cap)) ∧ V' S = V S ∧ X' S = X S ∧ (∃ q, X' F = q ++ [v] ∧ q.length = K + r) ∧ FullC (w2.setCell ⟨b, F, none⟩ (.slice (some ⟨g, 0, none⟩) ((X F).length + 1) cap)) col' (some (t, m)) t v m := by
  obtain ⟨hk, hl, hlc, hlen, hsame, hfix⟩ := h
  obtain ⟨col1, k1, f1, e1⟩ := hk.recol95 hv hc hn
  obtain ⟨hb2, V', X', col', a1, a2, a3, a4, a5, a6⟩ := k1.push (i := F) (by omega) (by omega) o1 own gr (fun s hs e => by omega) (fun s hs e => by omega) (fun s hs e => by rw [show 11 + s = S from by omega]; omega) (fun s hs e => by omega)
  have hlc1 : ∀ x, l.ownBlock = some x → col1 x = 8 := fun x hx => by rw [e1 x (hl.lt hx) (by rw [hlc x hx]; omega)]; exact hlc x hx
  refine ⟨hb2, V', X', col', a4, hl.pushed a6 (by omega) hlc1, fun x hx => by rw [a5 x (hl.lt hx)]; exact hlc1 x hx, ⟨by rw [a2]; simp; omega, by rw [(a3 S (by omega)).2]; exact hlen.2⟩, fun j j1 j2 => ?_, ?_, (a3 S (by omega)).1, (a3 S (by omega)).2, ⟨X F, a2, hlen.1⟩, f1.pushed a5 (by omega) a6⟩
  · obtain ⟨q1, q2⟩ := a3 j j1
    rw [q1, q2]; exact hsame j j1 j2
  · exact hfix.trans (((Fix.refl col w).re (c2 := col1) fun k hk h7 => by rw [e1 k hk (by omega)]; exact h7).trans (Fix.of a6 (by omega) fun k hk h7 => by rw [a5 k hk]; exact h7))
theorem MSt.push2 {V0 : Nat → Value} {X0 : Nat → List Value} {F S K r t m n : Nat} {col0 : Nat → Nat} {w0 w1 w2 : World} {l v : Value} (hk : Kp B w b V X C col (some (t, m)) p) (hl : OwnF B w t l n (fun _ k => mkF t m k)) (hlc : ∀ x, l.ownBlock = some x → col x = 8) (hlen : (X F).length = K + (r + 1) ∧ (X S).length = K + r) (hsame : ∀ j, j ≠ F → j ≠ S → V j = V0 j ∧ X j = X0 j) (hfix : Fix col0 col w0 w) (hq : ∃ q, X F = q ++ [v] ∧ q.length = K + r) (hf : FullC w col (some (t, m)) t v m) (ht : t < 3) (hF : F = 8 + t) (hS : S = 11 + t)
    {g cap : Nat} (o1 : Out 0 0 w w1) (own : w2.ownsRow B (tyS S) 1 (.slice (some ⟨g, 0, none⟩) ((X S).length + 1) cap) ((X S).length + 1) (X S ++ [.int .i64 (m : Int)])) (gr : Grew w1 w2 (V S) g) :
    w2.heap[b]? = some (.cells #[V 0, V 1, V 2, V 3, V 4, V 5, V 6, V 7, V 8, V 9, V 10, V 11, V 12, V 13] 48 (0, 0)) ∧
    ∃ V' X' col', MSt B b V0 X0 C p F S K col0 w0 t m l n (w2.setCell ⟨b, S, none⟩ (.slice (some ⟨g, 0, none⟩) ((X S).length + 1) cap)) (r + 1) V' X' col' := by
  obtain ⟨hb2, V', X', col', a1, a2, a3, a4, a5, a6⟩ := hk.push (i := S) (by omega) (by omega) o1 own gr (fun s hs e => by omega) (fun s hs e => by omega) (fun s hs e => by omega) (fun s hs e u hu => by
    have : s = t := by omega
    subst this
    obtain ⟨q, q1, q2⟩ := hq
    rw [← hF, q1, hlen.2, ← q2, List.getElem?_append_right (Nat.le_refl _)] at hu
    simp at hu
    subst hu
    exact ⟨m, rfl, hf⟩)
  refine ⟨hb2, V', X', col', a4, hl.pushed a6 (by omega) hlc, fun x hx => by rw [a5 x (hl.lt hx)]; exact hlc x hx, ⟨by rw [(a3 F (by omega)).2]; exact hlen.1, by rw [a2]; simp; omega⟩, fun j j1 j2 => ?_, ?_⟩
  · obtain ⟨q1, q2⟩ := a3 j j2
    rw [q1, q2]; exact hsame j j1 j2
  · exact hfix.trans (Fix.of a6 (by omega) fun k hk h7 => by rw [a5 k hk]; exact h7)
theorem MSt.shut {V0 : Nat → Value} {X0 : Nat → List Value} {F S K r t m n : Nat} {col0 : Nat → Nat} {w0 : World} {l : Value} (h : MSt B b V0 X0 C p F S K col0 w0 t m l n w r V X col) : MEnd B b V0 X0 C p F S (K + r) col0 w0 w := by
  obtain ⟨hk, hl, hlc, hlen, hsame, hfix⟩ := h
  exact ⟨V, X, _, hk.shut, hlen, hsame, hfix.re fun k _ h7 => by show (if col k = 8 then 5 else col k) = 7; rw [if_neg (by omega)]; exact h7⟩
end
end Go.Proofs.YtjbbkeoolodeaaaGreatDoor
namespace Go.Proofs.YtjbbkeoolodeaaaGreatDoor
open Go.RowKit
set_option linter.unusedVariables false
set_option linter.unusedSimpArgs false

theorem out_putObj (W : World) (l : Nat) (o : Obj) : Out l (l + 1) W (W.putObj l o) :=
  ⟨rfl, rfl, rfl, by simp, fun k _ h2 => World.putObj_heap_other (by omega)⟩
/-- the record of a loop at the world w: what it bears besides its state and its pending jump -/
def RecOf (a : Act) (ps : Array Tmp) (assign body : Code) (D : Nat) (rec : LoopState → Option Code → Loop) : Prop :=
  ∃ fn, rec = fun st pe => { state := st, pending := pe, fn, tmps := a.tmps, params := ps, assign, body, defers := D }
/-- a statement 'for .. := range g': the iterator is called with yield; behind it all have come (K), or a round has left (Kx) -/
theorem range_any {P : Program} {g : Operand} {ps : Array Tmp} {assign body : Code} {Q : Exit → Act → World → Prop} {a : Act} {w : World} {gf : Nat} {lb : Array Value}
    (hg : a.eval g = .func (.func gf) #[] lb) (eg : ∀ args w, (callFunc gf args).run P w = .ok (.enter gf args) w) (K : World → Prop) (Kx : Code → World → Prop)
    (H : ∀ rec, RecOf a ps assign body w.heap.size rec → ∀ W1, W1 = (w.alloc (.deferred (some []))).alloc (.loop (rec .ready none)) →
      Calls P gf (#[.func (.yield (w.heap.size + 1)) #[] #[]] ++ lb) W1 fun e W => (∃ v, e = .returned v) ∧ W.heap[w.heap.size]? = some (.deferred (some [])) ∧
        ((K W ∧ W.heap[w.heap.size + 1]? = some (.loop (rec .ready none))) ∨ ∃ c, Kx c W ∧ W.heap[w.heap.size + 1]? = some (.loop (rec .done (some c)))))
    (hdone : ∀ W W', K W → Out (w.heap.size + 1) (w.heap.size + 2) W W' → W'.heap[w.heap.size]? = some (.deferred (some [])) → Q .normal { a with defers := { target := .collected w.heap.size, args := #[] } :: a.defers } W')
    (hstop : ∀ c W W', Kx c W → Out (w.heap.size + 1) (w.heap.size + 2) W W' → W'.heap[w.heap.size]? = some (.deferred (some [])) → c.wpIn Fence.wide 0 P Q { a with defers := { target := .collected w.heap.size, args := #[] } :: a.defers } W') :
    (Code.rangeFunc g ps assign body).wpIn Fence.wide 0 P Q a w := by
  refine wpIn_rangeFunc ?_
  intro fn hfn
  obtain ⟨rec, hrec⟩ : ∃ rec : LoopState → Option Code → Loop, rec = fun st pe => { state := st, pending := pe, fn, tmps := a.tmps, params := ps, assign, body, defers := w.heap.size } := ⟨_, rfl⟩
  have hc := H rec ⟨fn, hrec⟩ _ rfl
  refine ⟨w.heap.size + 1, [{ target := .collected w.heap.size, args := #[] }], (w.alloc (.deferred (some []))).alloc (.loop (rec .ready none)), { target := .fn (.func gf) lb, args := #[.func (.yield (w.heap.size + 1)) #[] #[]] }, (w.alloc (.deferred (some []))).alloc (.loop (rec .ready none)), gf,
    #[.func (.yield (w.heap.size + 1)) #[] #[]] ++ lb, (w.alloc (.deferred (some []))).alloc (.loop (rec .ready none)), ?_, ?_, fun _ _ => trivial, ?_, fun h => by simp [Fence.wide] at h, ?_⟩
  · rw [hrec]; exact run_enterLoop_outer _ _ _ _ _
  · simp only [resolve, hg]
    simp [go_sem]
  · simp [invoke, go_sem, eg]
  · refine callsIn_wide.2 (hc.mono ?_)
    rintro e W ⟨⟨v, rfl⟩, hD, ⟨hK, hl⟩ | ⟨c, hK, hl⟩⟩
    · refine ⟨none, _, by have := run_endLoop (P := P) hl (by rw [hrec]; simp); rw [hrec] at this; exact this, hdone W _ hK (out_putObj _ _ _) ((World.putObj_heap_other (by omega)).trans hD)⟩
    · refine ⟨some c, _, by have := run_endLoop (P := P) hl (by rw [hrec]; simp); rw [hrec] at this; exact this, hstop c W _ hK (out_putObj _ _ _) ((World.putObj_heap_other (by omega)).trans hD)⟩
/-- how the body of a round may be left -/
def rPost (l : Nat) (rec : LoopState → Option Code → Loop) (R : Ending → World → Prop) : Exit → Act → World → Prop
  | .normal, _, W => W.heap[l]? = some (.loop (rec .busy none)) ∧ ∀ W', Out l (l + 1) W W' → W'.heap[l]? = some (.loop (rec .ready none)) → R (.returned (.bool true)) W'
  | .ret, _, W => W.heap[l]? = some (.loop (rec .busy none)) ∧ ∀ W', Out l (l + 1) W W' → W'.heap[l]? = some (.loop (rec .done (some .ret))) → R (.returned (.bool false)) W'
  | .exit id, _, W => W.heap[l]? = some (.loop (rec .busy none)) ∧ ∀ W', Out l (l + 1) W W' → W'.heap[l]? = some (.loop (rec .done (some (.exit id)))) → R (.returned (.bool false)) W'
  | .goto t, _, W => W.heap[l]? = some (.loop (rec .busy none)) ∧ ∀ W', Out l (l + 1) W W' → W'.heap[l]? = some (.loop (rec .done (some (.goto t)))) → R (.returned (.bool false)) W'
  | .panic _, _, _ => False
  | .outgrown, _, _ => False
/-- one round -/
theorem round_any {P : Program} {a : Act} {ps : Array Tmp} {assign body : Code} {D l : Nat} {rec : LoopState → Option Code → Loop} {W : World} {args : Array Value} {R : Ending → World → Prop}
    (hrec : RecOf a ps assign body D rec) (hl : W.heap[l]? = some (.loop (rec .ready none))) (hs : args.size = ps.size)
    (h : assign.wpIn (Fence.wide.inRound l) 0 P (Exit.then (fun a1 W1 => W1.heap[l]? = some (.loop (rec .ready none)) ∧
      ∀ W2, Out l (l + 1) W1 W2 → W2.heap[l]? = some (.loop (rec .busy none)) → body.wpIn (Fence.wide.inRound l) 0 P (rPost l rec R) a1 W2) (fun _ _ _ => False))
      { tmps := (ps.zip args).foldl (fun t (p, v) => t.setIfInBounds p v) a.tmps, defers := [] } W) : YieldAt Fence.wide 0 P l args W R := by
  obtain ⟨fn, rfl⟩ := hrec
  have hy := run_yield (P := P) (args := args) hl hs
  refine ⟨fn, _, assign, body, hy, roundIn_of_wpIn trivial (wpIn_mono h ?_)⟩
  rintro e a1 W1 he
  cases e with
  | normal =>
    obtain ⟨hl1, hb⟩ := he
    have hlt : l < W1.heap.size := heap_lt hl1
    refine ⟨_, run_beginRound hl1 rfl, wpIn_mono (hb _ (out_putObj _ _ _) (World.putObj_heap_same hlt)) ?_⟩
    rintro e2 a2 W3 hp
    cases e2 with
    | normal => exact ⟨_, _, run_endRound none hp.1, hp.2 _ (out_putObj _ _ _) (World.putObj_heap_same (heap_lt hp.1))⟩
    | ret => exact ⟨_, _, run_endRound (some .ret) hp.1, hp.2 _ (out_putObj _ _ _) (World.putObj_heap_same (heap_lt hp.1))⟩
    | exit id => exact ⟨_, _, run_endRound (some (.exit id)) hp.1, hp.2 _ (out_putObj _ _ _) (World.putObj_heap_same (heap_lt hp.1))⟩
    | goto t => exact ⟨_, _, run_endRound (some (.goto t)) hp.1, hp.2 _ (out_putObj _ _ _) (World.putObj_heap_same (heap_lt hp.1))⟩
    | panic ch => exact hp.elim
    | outgrown => exact hp.elim
  | ret => exact he.elim
  | exit id => exact he.elim
  | goto t => exact he.elim
  | panic ch => exact he.elim
  | outgrown => exact he.elim
end Go.Proofs.YtjbbkeoolodeaaaGreatDoor
namespace Go.Proofs.YtjbbkeoolodeaaaGreatDoor
open Go.ChangeShapes Go.WideShapes Go.ChangeAt Go.RowKit
set_option linter.unusedVariables false
set_option linter.unusedSimpArgs false

theorem csizes_any (w : World) : Calls Tryz.prog 133 #[] w fun e w' => e = .returned (.agg #[.int .i64 2, .int .i64 4, .int .i64 6, .int .i64 8, .int .i64 12, .int .i64 16, .int .i64 20, .int .i64 32]) ∧ Below w.heap.size w w' := by
  have h0 := Below.refl w.heap.size w
  go_enter Tryz.func133, Tryz.ntmps133
  go_wp2
  refine ret8 (g := w.heap.size) rfl rfl rfl (heap_alloc_new _ _) ⟨rfl, ?_⟩
  exact h0.alloc (Nat.le_refl _) _

def blocksV (c : Int) : Int := if c = 0 then 32 else if c = 1 then 16 else if c = 2 then 10 else if c = 3 then 8 else if c = 4 then 5 else if c = 5 then 4 else if c = 6 then 3 else if c = 7 then 2 else 0
def ofV (s : Int) : Int := if s < 1 then -1 else if s ≤ 2 then 0 else if s ≤ 4 then 1 else if s ≤ 6 then 2 else if s ≤ 8 then 3 else if s ≤ 12 then 4 else if s ≤ 16 then 5 else if s ≤ 20 then 6 else if s ≤ 32 then 7 else if s ≤ 1024 then 8 else -1
def pagesV (s : Int) : Int := if 32 < s ∧ s ≤ 1024 then (s + 63) / 64 else 0
theorem class_cases (c : Int) : (c = 0 ∨ c = 1 ∨ c = 2 ∨ c = 3 ∨ c = 4 ∨ c = 5 ∨ c = 6 ∨ c = 7) ∨ (c < 0 ∨ 8 ≤ c) := by omega
theorem wordsV_out {c : Int} (h : c < 0 ∨ 8 ≤ c) : wordsV c = 0 := by unfold wordsV; split <;> (try omega); repeat (split <;> (try omega))
theorem blocksV_out {c : Int} (h : c < 0 ∨ 8 ≤ c) : blocksV c = 0 := by unfold blocksV; split <;> (try omega); repeat (split <;> (try omega))

theorem cwords_any (c : Int) (w : World) : Calls Tryz.prog 123 #[.int .i64 c] w fun e w' => e = .returned (.int .i64 (wordsV c)) ∧ Below w.heap.size w w' := by
  have h0 := Below.refl w.heap.size w
  by_cases hc : 0 ≤ c ∧ c < 8
  · obtain ⟨h1, h2⟩ := hc
    obtain ⟨k, rfl⟩ : ∃ k : Nat, c = k := ⟨c.toNat, by omega⟩
    have hi := index8n k (by omega)
    go_enter Tryz.func123, Tryz.ntmps123
    go_wp2_with (go_at_call 133; refine (calls_rel (csizes_any _) (by assumption)).mono ?_; rintro e w1 ⟨rfl, hg⟩)
    go_ret
    exact ⟨rfl, by assumption⟩
  · have hc : c < 0 ∨ 8 ≤ c := by omega
    rw [wordsV_out hc]
    rcases hc with h | h
    all_goals
      go_enter Tryz.func123, Tryz.ntmps123
      go_wp2
      go_ret
      exact ⟨rfl, h0⟩

theorem words_at (c v : Int) (h : wordsV c = v) (w : World) : Calls Tryz.prog 123 #[.int .i64 c] w fun e w' => e = .returned (.int .i64 v) ∧ Below w.heap.size w w' := by
  rw [← h]; exact cwords_any c w
/-- the eight classes and their numbers -/
theorem class_told (c : Int) : (∃ x y : Int, wordsV c = x ∧ blocksV c = y ∧ 0 ≤ c ∧ c ≤ 7 ∧ ((c = 0 ∧ x = 2 ∧ y = 32) ∨ (c = 1 ∧ x = 4 ∧ y = 16) ∨ (c = 2 ∧ x = 6 ∧ y = 10) ∨ (c = 3 ∧ x = 8 ∧ y = 8) ∨ (c = 4 ∧ x = 12 ∧ y = 5) ∨ (c = 5 ∧ x = 16 ∧ y = 4) ∨ (c = 6 ∧ x = 20 ∧ y = 3) ∨ (c = 7 ∧ x = 32 ∧ y = 2)))
    ∨ (wordsV c = 0 ∧ blocksV c = 0 ∧ (c < 0 ∨ 8 ≤ c)) := by
  rcases class_cases c with hc | hc
  · left
    refine ⟨_, _, rfl, rfl, by omega, by omega, ?_⟩
    rcases hc with rfl | rfl | rfl | rfl | rfl | rfl | rfl | rfl <;> decide
  · right; exact ⟨wordsV_out hc, blocksV_out hc, hc⟩
theorem blocks_any (c : Int) (w : World) : Calls Tryz.prog 144 #[.int .i64 c] w fun e w' => e = .returned (.int .i64 (blocksV c)) ∧ Below w.heap.size w w' := by
  have h0 := Below.refl w.heap.size w
  rcases class_told c with ⟨x, y, hx, hy, c0, c7, h⟩ | ⟨hx, hy, hc⟩
  · rw [hy]
    have H := hid_mk (words_at c x hx)
    clear hx hy c0 c7
    rcases h with ⟨rfl, rfl, rfl⟩ | ⟨rfl, rfl, rfl⟩ | ⟨rfl, rfl, rfl⟩ | ⟨rfl, rfl, rfl⟩ | ⟨rfl, rfl, rfl⟩ | ⟨rfl, rfl, rfl⟩ | ⟨rfl, rfl, rfl⟩ | ⟨rfl, rfl, rfl⟩
    all_goals
      go_enter Tryz.func144, Tryz.ntmps144
      go_wp2_with (go_at_call 123; refine (calls_rel (H.out _) (by assumption)).mono ?_; rintro e w1 ⟨rfl, hg⟩)
      go_ret
      exact ⟨rfl, by assumption⟩
  · rw [hy]
    have H := hid_mk (words_at c 0 hx)
    clear hx hy hc
    go_enter Tryz.func144, Tryz.ntmps144
    go_wp2_with (go_at_call 123; refine (calls_rel (H.out _) (by assumption)).mono ?_; rintro e w1 ⟨rfl, hg⟩)
    go_ret
    exact ⟨rfl, by assumption⟩
theorem blocks_at (c v : Int) (h : blocksV c = v) (w : World) : Calls Tryz.prog 144 #[.int .i64 c] w fun e w' => e = .returned (.int .i64 v) ∧ Below w.heap.size w w' := by
  rw [← h]; exact blocks_any c w
def startV (c i : Int) : Int := if 0 ≤ i ∧ i < blocksV c then i * wordsV c else -1
theorem start_any (c i : Int) (w : World) : Calls Tryz.prog 165 #[.int .i64 c, .int .i64 i] w fun e w' => e = .returned (.int .i64 (startV c i)) ∧ Below w.heap.size w w' := by
  have h0 := Below.refl w.heap.size w
  have hb : blocksV c ≤ 32 ∧ 0 ≤ blocksV c := by rcases class_told c with ⟨x, y, hx, hy, c0, c7, h⟩ | ⟨hx, hy, hc⟩ <;> omega
  have hw : 0 ≤ wordsV c ∧ wordsV c ≤ 32 := by rcases class_told c with ⟨x, y, hx, hy, c0, c7, h⟩ | ⟨hx, hy, hc⟩ <;> omega
  obtain ⟨b1, b2⟩ := hb
  by_cases hi : 0 ≤ i ∧ i < blocksV c
  · obtain ⟨i1, i2⟩ := hi
    have hp1 : 0 ≤ i * wordsV c := Int.mul_nonneg i1 hw.1
    have hp2 : i * wordsV c ≤ 32 * 32 := Int.mul_le_mul (by omega) hw.2 hw.1 (by omega)
    have hs : startV c i = i * wordsV c := by unfold startV; rw [if_pos ⟨i1, i2⟩]
    rw [hs]
    have HB := hid_mk (blocks_at c _ rfl)
    have HW := hid_mk (words_at c _ rfl)
    clear hs hw
    generalize blocksV c = y at *
    generalize wordsV c = x at *
    have hwr : wrap64 (i * x) = i * x := by unfold wrap64; omega
    clear hp1 hp2
    go_enter Tryz.func165, Tryz.ntmps165
    go_wp2_with (first
      | (go_at_call 144; refine (calls_rel (HB.out _) (by assumption)).mono ?_; rintro e w1 ⟨rfl, hg⟩)
      | (go_at_call 123; refine (calls_rel (HW.out _) (by assumption)).mono ?_; rintro e w1 ⟨rfl, hg⟩))
    go_ret
    refine ⟨ret_int ?_, by assumption⟩
    first | rfl | exact hwr
  · have hs : startV c i = -1 := by unfold startV; rw [if_neg hi]
    rw [hs]
    have HB := hid_mk (blocks_at c _ rfl)
    clear hs hw b1 b2
    generalize blocksV c = y at *
    have hi : i < 0 ∨ (0 ≤ i ∧ y ≤ i) := by omega
    rcases hi with h | ⟨h1, h2⟩
    all_goals
      go_enter Tryz.func165, Tryz.ntmps165
      go_wp2_with (go_at_call 144; refine (calls_rel (HB.out _) (by assumption)).mono ?_; rintro e w1 ⟨rfl, hg⟩)
      go_ret
      exact ⟨rfl, by assumption⟩
end Go.Proofs.YtjbbkeoolodeaaaGreatDoor
namespace Go.Proofs.YtjbbkeoolodeaaaGreatDoor
open Go.ChangeShapes Go.WideShapes Go.ChangeAt Go.RowKit
set_option linter.unusedVariables false
set_option linter.unusedSimpArgs false

/-- the first class that holds it -/
theorem of_first {s : Int} (h1 : 1 ≤ s) (h2 : s ≤ 1024) (k : Nat) (hk : k < 8) : (wordsV k < s) ↔ (k : Int) < ofV s := by
  have hi : k = 0 ∨ k = 1 ∨ k = 2 ∨ k = 3 ∨ k = 4 ∨ k = 5 ∨ k = 6 ∨ k = 7 := by omega
  rcases hi with rfl | rfl | rfl | rfl | rfl | rfl | rfl | rfl <;> simp [wordsV, ofV] <;> omega
theorem ofV_in {s : Int} (h1 : 1 ≤ s) (h2 : s ≤ 1024) : 0 ≤ ofV s ∧ ofV s ≤ 8 := by unfold ofV; omega
theorem ofV_out {s : Int} (h : s < 1 ∨ 1024 < s) : ofV s = -1 := by unfold ofV; omega
set_option maxHeartbeats 800000 in
theorem of_any (s : Int) (w : World) : Calls Tryz.prog 96 #[.int .i64 s] w fun e w' => e = .returned (.int .i64 (ofV s)) ∧ Below w.heap.size w w' := by
  have h0 := Below.refl w.heap.size w
  by_cases hs : 1 ≤ s ∧ s ≤ 1024
  · obtain ⟨s1, s2⟩ := hs
    have HF := hid_mk (of_first s1 s2)
    obtain ⟨q1, q2⟩ := ofV_in s1 s2
    generalize ofV s = q at *
    go_enter Tryz.func96, Tryz.ntmps96
    go_wp2_with (go_at_call 133; refine (calls_rel (csizes_any _) (by assumption)).mono ?_; rintro e w1 ⟨rfl, hg⟩)
    go_loopw [12] (fun i wr => ∃ k : Nat, (k : Int) ≤ q ∧ i = .int .i64 k ∧ Below w.heap.size w wr) (fun i _ => 8 - (intOf i).toNat)
    case atStart => exact ⟨0, by omega, by simp, hg⟩
    case round =>
      clear hg h0
      obtain ⟨k, hk, rfl, hB⟩ := hrel
      by_cases hk8 : k < 8
      · have hi := index8n k hk8
        have hf := HF.out k hk8
        have hk8' : (k : Int) < 8 := by omega
        generalize wordsV k = x at hi hf
        by_cases hx : x < s
        · have hx' : ¬ s ≤ x := by omega
          have hkq := hf.1 hx
          go_wp2
          go_roundw
          case rel => exact ⟨k + 1, by omega, by simp, hB⟩
          case measure => simp [intOf]; omega
        · have hx' : s ≤ x := by omega
          have hkq : q = k := by have := fun h => hx (hf.2 h); omega
          subst hkq
          go_wp2
          go_ret
          exact ⟨rfl, hB⟩
      · have hkq : k = 8 := by omega
        have : q = 8 := by omega
        subst hkq this
        go_wp2
        go_ret
        exact ⟨rfl, hB⟩
  · have hs : s < 1 ∨ 1024 < s := by omega
    rw [ofV_out hs]
    rcases hs with h | h
    all_goals
      go_enter Tryz.func96, Tryz.ntmps96
      go_wp2
      go_ret
      exact ⟨rfl, h0⟩
theorem of_at (s v : Int) (h : ofV s = v) (w : World) : Calls Tryz.prog 96 #[.int .i64 s] w fun e w' => e = .returned (.int .i64 v) ∧ Below w.heap.size w w' := by
  rw [← h]; exact of_any s w
theorem ofV_eight {s : Int} : ofV s = 8 ↔ 32 < s ∧ s ≤ 1024 := by unfold ofV; omega
theorem pages_any (s : Int) (w : World) : Calls Tryz.prog 93 #[.int .i64 s] w fun e w' => e = .returned (.int .i64 (pagesV s)) ∧ Below w.heap.size w w' := by
  have h0 := Below.refl w.heap.size w
  by_cases hs : 32 < s ∧ s ≤ 1024
  · have HO := hid_mk (of_at s 8 (ofV_eight.2 hs))
    have hp : pagesV s = (s + 63) / 64 := by unfold pagesV; rw [if_pos hs]
    rw [hp]
    obtain ⟨s1, s2⟩ := hs
    clear hp
    go_enter Tryz.func93, Tryz.ntmps93
    go_wp2_with (go_at_call 96; refine (calls_rel (HO.out _) (by assumption)).mono ?_; rintro e w1 ⟨rfl, hg⟩)
    go_ret
    exact ⟨ret_int (by omega), by assumption⟩
  · have hq : (ofV s != 8) = true := by simpa using fun h => hs (ofV_eight.1 h)
    have hp : pagesV s = 0 := by unfold pagesV; rw [if_neg hs]
    have HO := hid_mk (of_at s _ rfl)
    rw [hp]
    generalize ofV s = q at *
    clear hp
    go_enter Tryz.func93, Tryz.ntmps93
    go_wp2_with (go_at_call 96; refine (calls_rel (HO.out _) (by assumption)).mono ?_; rintro e w1 ⟨rfl, hg⟩)
    go_ret
    exact ⟨rfl, by assumption⟩
end Go.Proofs.YtjbbkeoolodeaaaGreatDoor
namespace Go.Proofs.YtjbbkeoolodeaaaGreatDoor
open Go.RowKit
set_option linter.unusedVariables false
set_option linter.unusedSimpArgs false
def nextB (n : Int) : Bool := decide (-1 ≤ n ∧ n ≤ 262143)
theorem isNext_any (v : Int) (w : World) :
    Calls Tryz.prog 154 #[.int .i64 v] w fun e w' => e = .returned (.bool (nextB v)) ∧ w' = w := by
  go_enter Tryz.func154, Tryz.ntmps154
  go_wp2
  all_goals go_ret
  all_goals refine ⟨ret_bool ?_, rfl⟩
  all_goals (unfold nextB; rw [Bool.eq_iff_iff]; simp; try omega)

theorem ofInt_nat (b : Int) : (BitVec.ofInt 64 b).toNat = (b % 18446744073709551616).toNat := by
  rw [BitVec.toNat_ofInt]; rfl
theorem or_tag (b t : Int) (h1 : -1152921504606846976 ≤ b) (h2 : b ≤ 1152921504606846975) (t1 : 0 ≤ t) (t2 : t < 8) : bits .or .i64 (wrap64 (b * 8)) t = b * 8 + t := by
  have e : bits .or .i64 (wrap64 (b * 8)) t = IntKind.wrap .i64 ((BitVec.ofInt 64 (wrap64 (b * 8)) ||| BitVec.ofInt 64 t).toNat : Nat) := rfl
  have hw : wrap64 (b * 8) = b * 8 := by unfold wrap64; omega
  have h : (BitVec.ofInt 64 (b * 8) ||| BitVec.ofInt 64 t).toNat = 2 ^ 3 * (b % 2305843009213693952).toNat + t.toNat := by
    rw [BitVec.toNat_or, ofInt_nat, ofInt_nat]
    have e1 : (b * 8 % 18446744073709551616).toNat = 2 ^ 3 * (b % 2305843009213693952).toNat := by omega
    have e2 : (t % 18446744073709551616).toNat = t.toNat := by omega
    rw [e1, e2, Nat.two_pow_add_eq_or_of_lt (by omega)]
  rw [e, hw, h]
  simp [IntKind.wrap, IntKind.signed, IntKind.bits]
  omega

theorem join_any (b t : Int) (w : World) (h1 : -1152921504606846976 ≤ b) (h2 : b ≤ 1152921504606846975) (t1 : 0 ≤ t) (t2 : t < 8) :
    Calls Tryz.prog 155 #[.int .i64 b, .int .i64 t] w fun e w' => e = .returned (.int .i64 (b * 8 + t)) ∧ w' = w := by
  have H := hid_mk (or_tag b t h1 h2 t1 t2)
  clear h1 h2 t1 t2
  go_enter Tryz.func155, Tryz.ntmps155
  go_wp2
  go_ret
  exact ⟨ret_int H.out, rfl⟩

def linkV (n : Int) : Int := if nextB n = true then n * 8 + 4 else 0
theorem link_any (n : Int) (w : World) :
    Calls Tryz.prog 122 #[.int .i64 n] w fun e w' => e = .returned (.int .i64 (linkV n)) ∧ w' = w := by
  by_cases hv : nextB n = true
  · have hw : linkV n = n * 8 + 4 := by unfold linkV; rw [if_pos hv]
    have hr : -1 ≤ n ∧ n ≤ 262143 := by unfold nextB at hv; simpa using hv
    have hj := fun w => join_any n 4 w (by omega) (by omega) (by omega) (by omega)
    rw [hw]
    go_enter Tryz.func122, Tryz.ntmps122
    go_wp2_with (first | (go_at_call 155; refine calls_same (hj _) ?_) | (go_at_call 154; refine calls_same (isNext_any _ _) ?_))
    go_ret
    exact ⟨rfl, rfl⟩
  · have hv' := Bool.eq_false_iff.mpr hv
    have hw : linkV n = 0 := by unfold linkV; rw [if_neg hv]
    rw [hw]
    clear hv
    go_enter Tryz.func122, Tryz.ntmps122
    go_wp2_with (first | (go_at_call 154; refine calls_same (isNext_any _ _) ?_))
    go_ret
    exact ⟨rfl, rfl⟩
end Go.Proofs.YtjbbkeoolodeaaaGreatDoor
namespace Go.Proofs.YtjbbkeoolodeaaaGreatDoor
open Go.ChangeShapes Go.WideShapes Go.ChangeAt Go.RowKit
set_option linter.unusedVariables false
set_option linter.unusedSimpArgs false

/-- a good place, kind and size -/
def HGood (a k n : Int) : Prop := 0 ≤ a ∧ a ≤ 262143 ∧ 1 ≤ k ∧ k ≤ 31 ∧ 1 ≤ n ∧ n ≤ 1024
def goodB (a k n : Int) : Bool := decide (0 ≤ a ∧ a ≤ 262143 ∧ 1 ≤ k ∧ k ≤ 31 ∧ 1 ≤ n ∧ n ≤ 1024)
theorem goodB_true {a k n : Int} : goodB a k n = true ↔ HGood a k n := by unfold goodB HGood; rw [decide_eq_true_eq]
theorem good_true {a k n : Int} (h : HGood a k n) : goodB a k n = true := goodB_true.2 h
theorem good_false {a k n : Int} (h : ¬HGood a k n) : goodB a k n = false := by simpa using fun q => h (goodB_true.1 q)
def xV (a k n : Int) : Int := a * 65536 + k * 2048 + n
def signV (x : Int) : Int := x * 10872568911861 % 17592186044416
def makeV (a k n : Int) : Int := if goodB a k n then (k + n * 32 + signV (xV a k n) * 65536) * 8 + 5 else 0
def kOf (w : Int) : Int := w / 8 % 32
def nOf (w : Int) : Int := w / 256 % 2048
def readB (a w : Int) : Bool := decide (w ≠ 0 ∧ w = makeV a (kOf w) (nOf w))
theorem sign_range (x : Int) : 0 ≤ signV x ∧ signV x < 17592186044416 := by
  unfold signV; exact ⟨Int.emod_nonneg _ (by decide), Int.emod_lt_of_pos _ (by decide)⟩
theorem sign_inj {x y : Int} (h1 : 0 ≤ x) (h2 : x < 17179869184) (h3 : 0 ≤ y) (h4 : y < 17179869184) (h : signV x = signV y) : x = y := by
  have h0 : (x * 10872568911861 * 1693535116381) % 17592186044416 = (y * 10872568911861 * 1693535116381) % 17592186044416 := by
    unfold signV at h
    rw [Int.mul_emod, h, ← Int.mul_emod]
  have e : (10872568911861 : Int) * 1693535116381 = 1 + 17592186044416 * 1046662263065 := by decide
  have e1 : ∀ z : Int, z * 10872568911861 * 1693535116381 = z + 17592186044416 * (z * 1046662263065) := by
    intro z
    rw [Int.mul_assoc, e, Int.mul_add, Int.mul_one, Int.mul_left_comm]
  rw [e1, e1, Int.add_mul_emod_self_left, Int.add_mul_emod_self_left, Int.emod_eq_of_lt h1 (Int.lt_trans h2 (by decide)), Int.emod_eq_of_lt h3 (Int.lt_trans h4 (by decide))] at h0
  exact h0
theorem make_good {a k n : Int} (h : HGood a k n) : makeV a k n = (k + n * 32 + signV (xV a k n) * 65536) * 8 + 5 := by unfold makeV; rw [if_pos (good_true h)]
theorem make_bad {a k n : Int} (h : ¬HGood a k n) : makeV a k n = 0 := by unfold makeV; rw [good_false h]; rfl
theorem x_range {a k n : Int} (h : HGood a k n) : 0 ≤ xV a k n ∧ xV a k n < 17179869184 := by unfold HGood at h; unfold xV; omega
theorem x_inj {a k n a' k' n' : Int} (h : HGood a k n) (h' : HGood a' k' n') (e : xV a k n = xV a' k' n') : a = a' ∧ k = k' ∧ n = n' := by
  unfold HGood at h h'; unfold xV at e; omega
/-- a header's parts -/
theorem make_parts {a k n : Int} (h : HGood a k n) : 0 < makeV a k n ∧ makeV a k n ≤ 9223372036854775807 ∧ makeV a k n % 8 = 5 ∧ kOf (makeV a k n) = k ∧ nOf (makeV a k n) = n ∧ makeV a k n / 524288 = signV (xV a k n) := by
  have hs := sign_range (xV a k n)
  rw [make_good h]
  unfold kOf nOf
  generalize signV (xV a k n) = s at *
  unfold HGood at h
  omega
theorem make_range (a k n : Int) : 0 ≤ makeV a k n ∧ makeV a k n ≤ 9223372036854775807 := by
  by_cases h : HGood a k n
  · have := make_parts h; omega
  · rw [make_bad h]; omega
theorem readB_true {a w : Int} : readB a w = true ↔ (w ≠ 0 ∧ w = makeV a (kOf w) (nOf w)) := by unfold readB; rw [decide_eq_true_eq]
theorem read_good {a w : Int} (h : readB a w = true) : HGood a (kOf w) (nOf w) := by
  rw [readB_true] at h
  by_cases g : HGood a (kOf w) (nOf w)
  · exact g
  · rw [make_bad g] at h; exact absurd h.2 h.1
theorem and_mask (b : Int) (k : Nat) (m : Int) (hm : (BitVec.ofInt 64 m).toNat = 2 ^ k - 1) (hk : (2 : Int) ^ k ∣ 18446744073709551616) (h63 : (2 : Int) ^ k ≤ 9223372036854775808) : bits .and .i64 b m = b % 2 ^ k := by
  have h : (BitVec.ofInt 64 b &&& BitVec.ofInt 64 m).toNat = (b % 18446744073709551616).toNat % 2 ^ k := by
    rw [BitVec.toNat_and, hm, Nat.and_two_pow_sub_one_eq_mod, ofInt_nat]
  have e : bits .and .i64 b m = IntKind.wrap .i64 ((BitVec.ofInt 64 b &&& BitVec.ofInt 64 m).toNat : Nat) := rfl
  have hp : (0 : Int) < 2 ^ k := Int.pow_pos (by decide)
  have e2 : (((b % 18446744073709551616).toNat % 2 ^ k : Nat) : Int) = b % 2 ^ k := by
    rw [Int.natCast_emod, Int.toNat_of_nonneg (Int.emod_nonneg _ (by decide)), Int.natCast_pow]
    exact Int.emod_emod_of_dvd b hk
  have r1 := Int.emod_nonneg b (Int.ne_of_gt hp)
  have r2 := Int.emod_lt_of_pos b hp
  rw [e, h, e2]
  generalize b % 2 ^ k = z at *
  generalize (2 : Int) ^ k = p at *
  simp [IntKind.wrap, IntKind.signed, IntKind.bits]
  omega
theorem and_44 (b : Int) : bits .and .i64 b 17592186044415 = b % 17592186044416 := and_mask b 44 17592186044415 (by decide) (by decide) (by decide)
theorem or_add (a c t : Int) (k : Nat) (e : a = c * 2 ^ k) (h1 : 0 ≤ c) (h2 : c * 2 ^ k + t ≤ 9223372036854775807) (t1 : 0 ≤ t) (t2 : t < 2 ^ k) : bits .or .i64 a t = a + t := by
  subst e
  have hp : (0 : Int) < 2 ^ k := Int.pow_pos (by decide)
  have hc : 0 ≤ c * 2 ^ k := Int.mul_nonneg h1 (Int.le_of_lt hp)
  have e : bits .or .i64 (c * 2 ^ k) t = IntKind.wrap .i64 ((BitVec.ofInt 64 (c * 2 ^ k) ||| BitVec.ofInt 64 t).toNat : Nat) := rfl
  have e1 : (c * 2 ^ k % 18446744073709551616).toNat = 2 ^ k * c.toNat := by
    rw [Int.emod_eq_of_lt hc (by omega), Int.toNat_mul h1 (Int.le_of_lt hp), Nat.mul_comm]
    congr 1
  have e2 : (t % 18446744073709551616).toNat = t.toNat := by omega
  have e3 : t.toNat < 2 ^ k := by
    have : ((2 ^ k : Nat) : Int) = (2 : Int) ^ k := by simp
    omega
  have h : (BitVec.ofInt 64 (c * 2 ^ k) ||| BitVec.ofInt 64 t).toNat = 2 ^ k * c.toNat + t.toNat := by
    rw [BitVec.toNat_or, ofInt_nat, ofInt_nat, e1, e2, Nat.two_pow_add_eq_or_of_lt e3]
  have e4 : ((2 ^ k * c.toNat + t.toNat : Nat) : Int) = c * 2 ^ k + t := by
    rw [Int.natCast_add, Int.natCast_mul, Int.toNat_of_nonneg h1, Int.toNat_of_nonneg t1, Int.natCast_pow, Int.mul_comm]
    simp
  rw [e, h, e4]
  generalize c * 2 ^ k = z at *
  simp [IntKind.wrap, IntKind.signed, IntKind.bits]
  omega
theorem wrap_in (v : Int) (h1 : 0 ≤ v) (h2 : v ≤ 9223372036854775807) : wrap64 v = v := by unfold wrap64; omega
theorem wrap_mod44 (v : Int) : wrap64 v % 17592186044416 = v % 17592186044416 := by unfold wrap64; omega
theorem sign_eq {a k n : Int} (h : HGood a k n) : bits .and .i64 (wrap64 (bits .or .i64 (bits .or .i64 (wrap64 (a * 65536)) (wrap64 (k * 2048))) n * 10872568911861)) 17592186044415 = signV (xV a k n) := by
  unfold HGood at h
  have w1 : wrap64 (a * 65536) = a * 65536 := wrap_in _ (by omega) (by omega)
  have w2 : wrap64 (k * 2048) = k * 2048 := wrap_in _ (by omega) (by omega)
  have o1 : bits .or .i64 (a * 65536) (k * 2048) = a * 65536 + k * 2048 := or_add _ a _ 16 rfl (by omega) (by omega) (by omega) (by omega)
  have o2 : bits .or .i64 (a * 65536 + k * 2048) n = a * 65536 + k * 2048 + n := or_add _ (a * 32 + k) _ 11 (by omega) (by omega) (by omega) (by omega) (by omega)
  rw [w1, w2, o1, o2, and_44, wrap_mod44]
  rfl
theorem make_eq {a k n : Int} (h : HGood a k n) : bits .or .i64 (wrap64 (bits .or .i64 (bits .or .i64 (wrap64 (signV (xV a k n) * 65536)) (wrap64 (n * 32))) k * 8)) 5 = makeV a k n := by
  rw [make_good h]
  obtain ⟨s1, s2⟩ := sign_range (xV a k n)
  generalize signV (xV a k n) = s at *
  unfold HGood at h
  have w1 : wrap64 (s * 65536) = s * 65536 := wrap_in _ (by omega) (by omega)
  have w2 : wrap64 (n * 32) = n * 32 := wrap_in _ (by omega) (by omega)
  have o1 : bits .or .i64 (s * 65536) (n * 32) = s * 65536 + n * 32 := or_add _ s _ 16 rfl (by omega) (by omega) (by omega) (by omega)
  have o2 : bits .or .i64 (s * 65536 + n * 32) k = s * 65536 + n * 32 + k := or_add _ (s * 2048 + n) _ 5 (by omega) (by omega) (by omega) (by omega) (by omega)
  have w3 : wrap64 ((s * 65536 + n * 32 + k) * 8) = (s * 65536 + n * 32 + k) * 8 := wrap_in _ (by omega) (by omega)
  have o3 : bits .or .i64 ((s * 65536 + n * 32 + k) * 8) 5 = (s * 65536 + n * 32 + k) * 8 + 5 := or_add _ (s * 65536 + n * 32 + k) _ 3 rfl (by omega) (by omega) (by omega) (by omega)
  rw [w1, w2, o1, o2, w3, o3]
  omega
/-- one round of the document's product -/
theorem sign_round {x s d f : Int} (h : (s + x * d) % 17592186044416 = f % 17592186044416) (hx : x % 2 = 1) : ((s + d) % 17592186044416 + x / 2 * ((d + d) % 17592186044416)) % 17592186044416 = f % 17592186044416 := by
  rw [← h, Int.add_emod, Int.mul_emod, Int.emod_emod, Int.emod_emod, ← Int.mul_emod, ← Int.add_emod]
  congr 1
  have e : x = x / 2 * 2 + 1 := by omega
  have : x * d = x / 2 * (d + d) + d := by
    conv => lhs; rw [e]
    rw [Int.add_mul, Int.mul_assoc, Int.one_mul, Int.two_mul]
  omega
theorem sign_round0 {x s d f : Int} (h : (s + x * d) % 17592186044416 = f % 17592186044416) (hx : x % 2 ≠ 1) : (s + x / 2 * ((d + d) % 17592186044416)) % 17592186044416 = f % 17592186044416 := by
  rw [← h, Int.add_emod, Int.mul_emod, Int.emod_emod, ← Int.mul_emod, ← Int.add_emod]
  congr 1
  have e : x = x / 2 * 2 := by omega
  have : x * d = x / 2 * (d + d) := by
    conv => lhs; rw [e]
    rw [Int.mul_assoc, Int.two_mul]
  omega
theorem turned {a k n u : Int} (h : HGood a k n) (hu : u ≠ makeV a k n) (hx : u / 524288 = makeV a k n / 524288 ∨ u % 524288 = makeV a k n % 524288) : readB a u = false := by
  by_cases r : readB a u = true
  · exfalso
    have g := read_good r
    have q := (readB_true.1 r).2
    obtain ⟨p1, p2, p3, p4, p5, p6⟩ := make_parts h
    obtain ⟨q1, q2, q3, q4, q5, q6⟩ := make_parts g
    obtain ⟨x1, x2⟩ := x_range h
    obtain ⟨y1, y2⟩ := x_range g
    apply hu
    rcases hx with hx | hx
    · rw [← q] at q6
      rw [hx, p6] at q6
      obtain ⟨_, e1, e2⟩ := x_inj g h (sign_inj y1 y2 x1 x2 q6.symm)
      rw [q, e1, e2]
    · have e1 : kOf u = k := by rw [← p4]; unfold kOf; generalize makeV a k n = v at *; omega
      have e2 : nOf u = n := by rw [← p5]; unfold nOf; generalize makeV a k n = v at *; omega
      rw [q, e1, e2]
  · simpa using r
end Go.Proofs.YtjbbkeoolodeaaaGreatDoor
namespace Go.Proofs.YtjbbkeoolodeaaaGreatDoor
open Go.RowKit
set_option linter.unusedVariables false
set_option linter.unusedSimpArgs false

/-! the numbers -/
def spineB (n : Int) : Bool := n == 4 || n == 8 || n == 16 || n == 32 || n == 64 || n == 128 || n == 256 || n == 512
def knownB (k : Int) : Bool := decide (1 ≤ k) && decide (k ≤ 13)
def sizeB (k n : Int) : Bool := knownB k && decide (0 ≤ n) && decide (n ≤ mo k) && (k != 12 || spineB n)
def partW (k n : Int) : Int := if k = 4 then (n + 7) / 8 else n
def sizeV (k n : Int) : Int := if sizeB k n then wd k + partW k n else 0
/-- the most words behind the first -/
def fitsB (k s : Int) : Bool := knownB k && decide (wd k ≤ s) && decide (s ≤ wd k + partW k (mo k)) && (k != 12 || spineB (s - 1))
theorem known_iff {k : Int} : knownB k = true ↔ 1 ≤ k ∧ k ≤ 13 := by unfold knownB; simp
theorem known_nat {k : Int} (h : knownB k = true) : ∃ j : Nat, k = j ∧ 1 ≤ j ∧ j ≤ 13 := ⟨k.toNat, by have := known_iff.1 h; omega, by have := known_iff.1 h; omega, by have := known_iff.1 h; omega⟩
theorem kinds {j : Nat} (h1 : 1 ≤ j) (h2 : j ≤ 13) : j = 1 ∨ j = 2 ∨ j = 3 ∨ j = 4 ∨ j = 5 ∨ j = 6 ∨ j = 7 ∨ j = 8 ∨ j = 9 ∨ j = 10 ∨ j = 11 ∨ j = 12 ∨ j = 13 := by omega
theorem wd_mo {j : Nat} (h1 : 1 ≤ j) (h2 : j ≤ 13) : 1 ≤ wd j ∧ wd j ≤ 5 ∧ 0 ≤ mo j ∧ mo j ≤ 4096 ∧ (j ≠ 4 → mo j ≤ 1023) ∧ (j = 4 → wd j = 2 ∧ mo j = 4096) ∧ (j = 12 → wd j = 1 ∧ mo j = 512) := by
  rcases kinds h1 h2 with rfl | rfl | rfl | rfl | rfl | rfl | rfl | rfl | rfl | rfl | rfl | rfl | rfl <;> decide
end Go.Proofs.YtjbbkeoolodeaaaGreatDoor
namespace Go.Proofs.YtjbbkeoolodeaaaGreatDoor
open Go.RowKit
set_option linter.unusedVariables false
set_option linter.unusedSimpArgs false

theorem known_any (k : Int) (w : World) : Calls Tryz.prog 91 #[.int .i64 k] w fun e w' => e = .returned (.bool (knownB k)) ∧ w' = w := by
  go_enter Tryz.func91, Tryz.ntmps91
  go_wp2
  all_goals go_ret
  all_goals refine ⟨ret_bool ?_, rfl⟩
  all_goals (unfold knownB; rw [Bool.eq_iff_iff]; simp; try omega)
theorem numbered_any (k : Int) (w : World) : Calls Tryz.prog 99 #[.int .i64 k] w fun e w' => e = .returned (.bool (decide (1 ≤ k) && decide (k ≤ 11))) ∧ w' = w := by
  go_enter Tryz.func99, Tryz.ntmps99
  go_wp2
  all_goals go_ret
  all_goals refine ⟨ret_bool ?_, rfl⟩
  all_goals (rw [Bool.eq_iff_iff]; simp; try omega)
theorem doubled_num : ∀ n : Fin 513, (decide (4 ≤ (n.val : Int)) && (bits .and .i64 (n.val : Int) ((n.val : Int) - 1) == 0)) = spineB (n.val : Int) := by decide +kernel
theorem doubled_any (n : Nat) (h : n ≤ 512) (w : World) : Calls Tryz.prog 130 #[.int .i64 n] w fun e w' => e = .returned (.bool (spineB n)) ∧ w' = w := by
  have H := doubled_num ⟨n, by omega⟩
  simp only at H
  rw [← H]
  by_cases h4 : 4 ≤ n
  · have h5 : (4 : Int) ≤ (n : Int) := by omega
    have h6 : wrap64 ((n : Int) - 1) = (n : Int) - 1 := by unfold wrap64; omega
    have hd : decide ((4 : Int) ≤ (n : Int)) = true := by simpa using h5
    rw [hd, Bool.true_and]
    clear H h4
    go_enter Tryz.func130, Tryz.ntmps130
    go_wp2
    go_ret
    exact ⟨rfl, rfl⟩
  · have h5 : (n : Int) < 4 := by omega
    have hd : decide ((4 : Int) ≤ (n : Int)) = false := by simp; omega
    rw [hd, Bool.false_and]
    clear H h4
    go_enter Tryz.func130, Tryz.ntmps130
    go_wp2
    go_ret
    exact ⟨rfl, rfl⟩
end Go.Proofs.YtjbbkeoolodeaaaGreatDoor
