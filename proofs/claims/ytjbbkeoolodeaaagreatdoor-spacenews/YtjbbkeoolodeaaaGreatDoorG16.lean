import Derived.Test.YtjbbkeoolodeaaaGreatDoorG14
import Derived.Test.YtjbbkeoolodeaaaGreatDoorG15
import Derived.Test.YtjbbkeoolodeaaaGreatDoorG10
import Derived.Test.YtjbbkeoolodeaaaGreatDoorG11
namespace Go.Proofs.YtjbbkeoolodeaaaGreatDoor
open Go.RowKit
set_option linter.unusedVariables false
set_option linter.unusedSimpArgs false

/-- how a round may be left -/
def rPo (D : Nat) (W2 : World) (J : World → Prop) (Kx : Code → World → Prop) : Exit → Act → World → Prop
  | .normal, _, W => Out 0 D W2 W ∧ J W
  | .ret, _, W => Out 0 D W2 W ∧ Kx .ret W
  | .exit id, _, W => Out 0 D W2 W ∧ Kx (.exit id) W
  | .goto t, _, W => Out 0 D W2 W ∧ Kx (.goto t) W
  | .panic _, _, _ => False
  | .outgrown, _, _ => False
theorem out_chain {D : Nat} {W Wa W2 W3 W' : World} (h1 : Out 0 D W Wa) (h2 : Out (D + 1) (D + 2) Wa W2) (h3 : Out 0 D W2 W3) (h4 : Out (D + 1) (D + 2) W3 W') : Out 0 (D + 2) W W' :=
  ((h1.wide (Nat.le_refl _) (by omega)).trans (h2.wide (Nat.zero_le _) (by omega))).trans ((h3.wide (Nat.le_refl _) (by omega)).trans (h4.wide (Nat.zero_le _) (by omega)))
theorem heap_chain {D : Nat} {W Wa W2 W3 W' : World} {o : Obj} (h1 : Out 0 D W Wa) (h2 : Out (D + 1) (D + 2) Wa W2) (h3 : Out 0 D W2 W3) (h4 : Out (D + 1) (D + 2) W3 W') (h : W.heap[D]? = some o) : W'.heap[D]? = some o :=
  h4.heap (h3.heap (h2.heap (h1.heap h (by omega)) (by omega)) (by omega)) (by omega)
theorem round_of {P : Program} {a : Act} {ps : Array Tmp} {assign body : Code} {D : Nat} {rec : LoopState → Option Code → Loop} {W : World} {args : Array Value} {J' : World → Prop} {Kx : Code → World → Prop}
    (hrec : RecOf a ps assign body D rec) (hd : W.heap[D]? = some (.deferred (some []))) (hl : W.heap[D + 1]? = some (.loop (rec .ready none))) (hs : args.size = ps.size)
    (hq : ∀ W W' x y, J' W → Out x y W W' → (D ≤ x ∨ y = 0) → J' W') (hqX : ∀ c W W' x y, Kx c W → Out x y W W' → D ≤ x → Kx c W')
    (h : assign.wpIn (Fence.wide.inRound (D + 1)) 0 P (Exit.then (fun a1 Wa => Out 0 D W Wa ∧ ∀ W2, Out (D + 1) (D + 2) Wa W2 → body.wpIn (Fence.wide.inRound (D + 1)) 0 P (rPo D W2 J' Kx) a1 W2) (fun _ _ _ => False))
      { tmps := (ps.zip args).foldl (fun t (p, v) => t.setIfInBounds p v) a.tmps, defers := [] } W) :
    YieldAt Fence.wide 0 P (D + 1) args W fun e W' => Out 0 (D + 2) W W' ∧ ((e = .returned (.bool true) ∧ J' W' ∧ W'.heap[D]? = some (.deferred (some [])) ∧ W'.heap[D + 1]? = some (.loop (rec .ready none))) ∨
      (e = .returned (.bool false) ∧ ∃ c, Kx c W' ∧ W'.heap[D]? = some (.deferred (some [])) ∧ W'.heap[D + 1]? = some (.loop (rec .done (some c))))) := by
  refine round_any hrec hl hs (wpIn_mono h ?_)
  rintro e a1 Wa he
  cases e with
  | normal =>
    obtain ⟨o1, hb⟩ := he
    refine ⟨o1.heap hl (.inr (by omega)), fun W2 o2 hl2 => wpIn_mono (hb W2 o2) ?_⟩
    rintro e2 a2 W3 hp
    cases e2 with
    | normal => exact ⟨hp.1.heap hl2 (.inr (by omega)), fun W' o4 hl4 => ⟨out_chain o1 o2 hp.1 o4, .inl ⟨rfl, hq _ _ _ _ hp.2 o4 (.inl (by omega)), heap_chain o1 o2 hp.1 o4 hd, hl4⟩⟩⟩
    | ret => exact ⟨hp.1.heap hl2 (.inr (by omega)), fun W' o4 hl4 => ⟨out_chain o1 o2 hp.1 o4, .inr ⟨rfl, _, hqX _ _ _ _ _ hp.2 o4 (by omega), heap_chain o1 o2 hp.1 o4 hd, hl4⟩⟩⟩
    | exit id => exact ⟨hp.1.heap hl2 (.inr (by omega)), fun W' o4 hl4 => ⟨out_chain o1 o2 hp.1 o4, .inr ⟨rfl, _, hqX _ _ _ _ _ hp.2 o4 (by omega), heap_chain o1 o2 hp.1 o4 hd, hl4⟩⟩⟩
    | goto t => exact ⟨hp.1.heap hl2 (.inr (by omega)), fun W' o4 hl4 => ⟨out_chain o1 o2 hp.1 o4, .inr ⟨rfl, _, hqX _ _ _ _ _ hp.2 o4 (by omega), heap_chain o1 o2 hp.1 o4 hd, hl4⟩⟩⟩
    | panic ch => exact hp.elim
    | outgrown => exact hp.elim
  | ret => exact he.elim
  | exit id => exact he.elim
  | goto t => exact he.elim
  | panic ch => exact he.elim
  | outgrown => exact he.elim
/-- for b := range s.All() -/
theorem overAll {lo hi n cap g : Nat} {s : Nat → Nat} {op : Operand} {ps : Array Tmp} {assign body : Code} {Q : Exit → Act → World → Prop} {a : Act} {w : World}
    (hg : a.eval op = .func (.func 117) #[] #[.pointer (some ⟨g, 0, none⟩)]) (hps : ps.size = 1)
    (J : Nat → World → Prop) (K : World → Prop) (Kx : Code → World → Prop)
    (hm : ∀ p W, J p W → p ≤ 64 * n ∧ ∃ r, RawAt W lo hi s n cap r ∧ Told r ∧ Box W g 34 (.pointer (some ⟨s 14, 0, none⟩)))
    (hq : ∀ p W W' x y, J p W → Out x y W W' → (w.heap.size ≤ x ∨ y = 0) → J p W')
    (hqK : ∀ W W' x y, K W → Out x y W W' → w.heap.size ≤ x → K W')
    (hqX : ∀ c W W' x y, Kx c W → Out x y W W' → w.heap.size ≤ x → Kx c W')
    (hy : ∀ p W r (k : Nat) b, J p W → RawAt W lo hi s n cap r → nxr r.P (64 * n) p = k → r.M (k : Int) = some b → w.heap.size + 2 ≤ W.heap.size →
      assign.wpIn (Fence.wide.inRound (w.heap.size + 1)) 0 Tryz.prog (Exit.then (fun a1 Wa => Out 0 w.heap.size W Wa ∧ ∀ W2, Out (w.heap.size + 1) (w.heap.size + 2) Wa W2 → body.wpIn (Fence.wide.inRound (w.heap.size + 1)) 0 Tryz.prog (rPo w.heap.size W2 (J (k + 1)) Kx) a1 W2) (fun _ _ _ => False))
        { tmps := (ps.zip #[blkV k b]).foldl (fun t (p, v) => t.setIfInBounds p v) a.tmps, defers := [] } W)
    (he : ∀ p W r, J p W → RawAt W lo hi s n cap r → nxr r.P (64 * n) p = -1 → K W) (h0 : J 0 w)
    (hdone : ∀ W, K W → W.heap[w.heap.size]? = some (.deferred (some [])) → Q .normal { a with defers := { target := .collected w.heap.size, args := #[] } :: a.defers } W)
    (hstop : ∀ c W, Kx c W → W.heap[w.heap.size]? = some (.deferred (some [])) → c.wpIn Fence.wide 0 Tryz.prog Q { a with defers := { target := .collected w.heap.size, args := #[] } :: a.defers } W) :
    (Code.rangeFunc op ps assign body).wpIn Fence.wide 0 Tryz.prog Q a w := by
  refine range_any hg (enters_of Tryz.func117 (by kernel_rfl) rfl) K Kx ?H (fun W W' hK ho hd => hdone W' (hqK _ _ _ _ hK ho (by omega)) hd) (fun c W W' hK ho hd => hstop c W' (hqX _ _ _ _ _ hK ho (by omega)) hd)
  intro rec hrec W1 hW1
  have ho : Out 0 0 w W1 := by rw [hW1]; exact ((Out.refl 0 0 w).alloc _).alloc _
  have hs : W1.heap.size = w.heap.size + 2 := by rw [hW1]; simp
  have hd : W1.heap[w.heap.size]? = some (.deferred (some [])) := by rw [hW1]; exact two_first
  have hl : W1.heap[w.heap.size + 1]? = some (.loop (rec .ready none)) := by rw [hW1]; exact heap_alloc2_new _ _ _
  clear hW1
  refine (sAll_yield (lo := lo) (hi := hi) (n := n) (cap := cap) (s := s) (g := g) (l := w.heap.size + 1)
    (fun p W => J p W ∧ W.heap[w.heap.size]? = some (.deferred (some [])) ∧ W.heap[w.heap.size + 1]? = some (.loop (rec .ready none)))
    (fun W => K W ∧ W.heap[w.heap.size]? = some (.deferred (some [])) ∧ W.heap[w.heap.size + 1]? = some (.loop (rec .ready none)))
    (fun W => ∃ c, Kx c W ∧ W.heap[w.heap.size]? = some (.deferred (some [])) ∧ W.heap[w.heap.size + 1]? = some (.loop (rec .done (some c)))) (w := W1) ?m ?q ?qj ?qx ?y ?e ?z).mono ?_
  case m => exact fun p W h => hm p W h.1
  case q => exact fun p W W' x y h o hx => ⟨hq p W W' x y h.1 o (by omega), o.heap h.2.1 (by omega), o.heap h.2.2 (by omega)⟩
  case qj => exact fun W W' x y h o hx => ⟨hqK W W' x y h.1 o (by omega), o.heap h.2.1 (by omega), o.heap h.2.2 (by omega)⟩
  case qx => rintro W W' x y ⟨c, h1, h2, h3⟩ o hx; exact ⟨c, hqX c W W' x y h1 o (by omega), o.heap h2 (by omega), o.heap h3 (by omega)⟩
  case y =>
    rintro p W r k b ⟨hj, hd1, hl1⟩ hr hk hb
    rw [hs]
    refine round_of hrec hd1 hl1 (by simp [hps]) (hq (k + 1)) hqX (hy p W r k b hj hr hk hb ?_)
    have := heap_lt hl1
    omega
  case e => exact fun p W r h hr hk => ⟨he p W r h.1 hr hk, h.2⟩
  case z => exact ⟨hq 0 w W1 0 0 h0 ho (.inr rfl), hd, hl⟩
  rintro e W ⟨hv, ⟨h1, h2, h3⟩ | ⟨c, h1, h2, h3⟩⟩
  · exact ⟨hv, h2, .inl ⟨h1, h3⟩⟩
  · exact ⟨hv, h2, .inr ⟨c, h1, h3⟩⟩
/-- two readings of one space agree -/
theorem mp_one {w : World} {b : Nat} {f f' : Int → Option Value} (h : MpAt w b f) (h' : MpAt w b f') : f = f' := by
  obtain ⟨es, cl, hb, _, _, h1⟩ := h
  obtain ⟨es', cl', hb', _, _, h2⟩ := h'
  rw [hb] at hb'
  simp at hb'
  obtain ⟨rfl, rfl⟩ := hb'
  funext a
  apply Option.ext
  intro v
  rw [h1 a v, h2 a v]
theorem raw_one {w : World} {lo hi n cap : Nat} {s : Nat → Nat} {r r' : Raw} (h : RawAt w lo hi s n cap r) (h' : RawAt w lo hi s n cap r') : r.P = r'.P ∧ r.M = r'.M := by
  refine ⟨MapAt.one h.places h'.places, ?_⟩
  have e := mp_one h.objs h'.objs
  funext a
  have ea := congrFun e a
  unfold mapM at ea
  cases x : r.M a with
  | none =>
    rw [x] at ea
    cases y : r'.M a with
    | none => rfl
    | some b => rw [y] at ea; cases ea
  | some b =>
    rw [x] at ea
    cases y : r'.M a with
    | none => rw [y] at ea; cases ea
    | some c =>
      rw [y] at ea
      obtain ⟨b1, b2, b3, b4⟩ := b
      obtain ⟨c1, c2, c3, c4⟩ := c
      simp [blkV] at ea
      obtain ⟨rfl, rfl, rfl, rfl⟩ := ea
      rfl
end Go.Proofs.YtjbbkeoolodeaaaGreatDoor
namespace Go.Proofs.YtjbbkeoolodeaaaGreatDoor
open Go.RowKit
attribute [local go_sem] Oper.semAt_some
set_option linter.unusedVariables false
set_option linter.unusedSimpArgs false

/-- rooms lie in the arena, one behind the other -/
def Rooms (n : Nat) (r : Raw) : Prop := ∀ a b, r.P a = true → r.M (a : Int) = some b → 1 ≤ b.2.1 ∧ b.2.1 ≤ 1024 ∧ a + roomN b.2.1 ≤ 64 * n ∧ ∀ a', a < a' → r.P a' = true → a + roomN b.2.1 ≤ a'
/-- at place p the loop has come to f -/
structure At (n : Nat) (r : Raw) (p f : Nat) : Prop where
  le : f ≤ 64 * n
  below : ∀ a b, a < p → r.P a = true → r.M (a : Int) = some b → a + roomN b.2.1 ≤ f
  above : ∀ a, p ≤ a → r.P a = true → f ≤ a
theorem At.step {n : Nat} {r : Raw} {p f k : Nat} {b : Blk} (hR : Rooms n r) (h : At n r p f) (hp : p ≤ k) (hz : ∀ j, p ≤ j → j < k → r.P j = false) (hk : r.P k = true) (hb : r.M (k : Int) = some b) : At n r (k + 1) (k + roomN b.2.1) := by
  obtain ⟨_, _, h3, h4⟩ := hR k b hk hb
  refine ⟨h3, fun a b' ha hPa hMa => ?_, fun a ha hPa => h4 a (by omega) hPa⟩
  by_cases e : a = k
  · subst e; rw [hb] at hMa; cases hMa; exact Nat.le_refl _
  · by_cases e2 : a < p
    · have := h.below a b' e2 hPa hMa
      have := h.above k hp hk
      omega
    · rw [hz a (by omega) (by omega)] at hPa; cases hPa
end Go.Proofs.YtjbbkeoolodeaaaGreatDoor
namespace Go.Proofs.YtjbbkeoolodeaaaGreatDoor
open Go.RowKit
set_option linter.unusedVariables false
set_option linter.unusedSimpArgs false

end Go.Proofs.YtjbbkeoolodeaaaGreatDoor
