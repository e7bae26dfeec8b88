import Derived.Test.YtcpignkjlnjjmaaGreatDoorNa24
import Derived.Test.YtcpignkjlnjjmaaGreatDoorNb00
namespace Go.Proofs.YtcpignkjlnjjmaaGreatDoor
open Go.RowKit
set_option linter.unusedVariables false
set_option linter.unusedSimpArgs false

def drR (n : Nat) (r : Raw) (a : Nat) (z x : Int) : Raw :=
  { r with S := if 32 < z then gvS r.S n ((a / 64 : Nat) : Int) else r.S, P := upd r.P a false, M := fun i => if i = (a : Int) then none else r.M i, R := fun i => if i = x then none else r.R i }
section
variable {w : World} {lo hi n cap : Nat} {s : Nat → Nat} {r : Raw}
theorem mapM_del (M : Int → Option Blk) (a : Int) : (fun y => if y = a then none else mapM M y) = mapM (fun i => if i = a then none else M i) := by
  funext y
  unfold mapM
  by_cases e : y = a
  · subst e; simp
  · simp [e]
theorem mapR_del (R : Int → Option Int) (a : Int) : (fun y => if y = a then none else mapR R y) = mapR (fun i => if i = a then none else R i) := by
  funext y
  unfold mapR
  by_cases e : y = a
  · subst e; simp
  · simp [e]
end
end Go.Proofs.YtcpignkjlnjjmaaGreatDoor
namespace Go.Proofs.YtcpignkjlnjjmaaGreatDoor
open Go.RowKit
set_option linter.unusedVariables false
set_option linter.unusedSimpArgs false
section
variable {w : World} {lo hi n cap : Nat} {s : Nat → Nat} {r : Raw}
end
end Go.Proofs.YtcpignkjlnjjmaaGreatDoor
namespace Go.Proofs.YtcpignkjlnjjmaaGreatDoor
open Go.RowKit
set_option linter.unusedVariables false
set_option linter.unusedSimpArgs false

/-- how a round may be left -/
def rPo (D : Nat) (W2 : World) (J : World → Prop) (Kx : Code → World → Prop) : Exit → Act → World → Prop
  | .normal, _, W => Out 0 D W2 W ∧ J W
  | .ret, _, W => Out 0 D W2 W ∧ Kx .ret W
  | .exit id, _, W => Out 0 D W2 W ∧ Kx (.exit id) W
  | .goto t, _, W => Out 0 D W2 W ∧ Kx (.goto t) W
  | .panic _, _, _ => False
  | .outgrown, _, _ => False
theorem out_chain {D : Nat} {W Wa W2 W3 W' : World} (h1 : Out 0 D W Wa) (h2 : Out (D + 1) (D + 2) Wa W2) (h3 : Out 0 D W2 W3) (h4 : Out (D + 1) (D + 2) W3 W') : Out 0 (D + 2) W W' :=
  ((h1.wide (Nat.le_refl _) (by omega)).trans (h2.wide (Nat.zero_le _) (by omega))).trans ((h3.wide (Nat.le_refl _) (by omega)).trans (h4.wide (Nat.zero_le _) (by omega)))
theorem heap_chain {D : Nat} {W Wa W2 W3 W' : World} {o : Obj} (h1 : Out 0 D W Wa) (h2 : Out (D + 1) (D + 2) Wa W2) (h3 : Out 0 D W2 W3) (h4 : Out (D + 1) (D + 2) W3 W') (h : W.heap[D]? = some o) : W'.heap[D]? = some o :=
  h4.heap (h3.heap (h2.heap (h1.heap h (by omega)) (by omega)) (by omega)) (by omega)
theorem round_of {P : Program} {a : Act} {ps : Array Tmp} {assign body : Code} {D : Nat} {rec : LoopState → Option Code → Loop} {W : World} {args : Array Value} {J' : World → Prop} {Kx : Code → World → Prop}
    (hrec : RecOf a ps assign body D rec) (hd : W.heap[D]? = some (.deferred (some []))) (hl : W.heap[D + 1]? = some (.loop (rec .ready none))) (hs : args.size = ps.size)
    (hq : ∀ W W' x y, J' W → Out x y W W' → (D ≤ x ∨ y = 0) → J' W') (hqX : ∀ c W W' x y, Kx c W → Out x y W W' → D ≤ x → Kx c W')
    (h : assign.wpIn (Fence.wide.inRound (D + 1)) 0 P (Exit.then (fun a1 Wa => Out 0 D W Wa ∧ ∀ W2, Out (D + 1) (D + 2) Wa W2 → body.wpIn (Fence.wide.inRound (D + 1)) 0 P (rPo D W2 J' Kx) a1 W2) (fun _ _ _ => False))
      { tmps := (ps.zip args).foldl (fun t (p, v) => t.setIfInBounds p v) a.tmps, defers := [] } W) :
    YieldAt Fence.wide 0 P (D + 1) args W fun e W' => Out 0 (D + 2) W W' ∧ ((e = .returned (.bool true) ∧ J' W' ∧ W'.heap[D]? = some (.deferred (some [])) ∧ W'.heap[D + 1]? = some (.loop (rec .ready none))) ∨
      (e = .returned (.bool false) ∧ ∃ c, Kx c W' ∧ W'.heap[D]? = some (.deferred (some [])) ∧ W'.heap[D + 1]? = some (.loop (rec .done (some c))))) := by
  refine round_any hrec hl hs (wpIn_mono h ?_)
  rintro e a1 Wa he
  cases e with
  | normal =>
    obtain ⟨o1, hb⟩ := he
    refine ⟨o1.heap hl (.inr (by omega)), fun W2 o2 hl2 => wpIn_mono (hb W2 o2) ?_⟩
    rintro e2 a2 W3 hp
    cases e2 with
    | normal => exact ⟨hp.1.heap hl2 (.inr (by omega)), fun W' o4 hl4 => ⟨out_chain o1 o2 hp.1 o4, .inl ⟨rfl, hq _ _ _ _ hp.2 o4 (.inl (by omega)), heap_chain o1 o2 hp.1 o4 hd, hl4⟩⟩⟩
    | ret => exact ⟨hp.1.heap hl2 (.inr (by omega)), fun W' o4 hl4 => ⟨out_chain o1 o2 hp.1 o4, .inr ⟨rfl, _, hqX _ _ _ _ _ hp.2 o4 (by omega), heap_chain o1 o2 hp.1 o4 hd, hl4⟩⟩⟩
    | exit id => exact ⟨hp.1.heap hl2 (.inr (by omega)), fun W' o4 hl4 => ⟨out_chain o1 o2 hp.1 o4, .inr ⟨rfl, _, hqX _ _ _ _ _ hp.2 o4 (by omega), heap_chain o1 o2 hp.1 o4 hd, hl4⟩⟩⟩
    | goto t => exact ⟨hp.1.heap hl2 (.inr (by omega)), fun W' o4 hl4 => ⟨out_chain o1 o2 hp.1 o4, .inr ⟨rfl, _, hqX _ _ _ _ _ hp.2 o4 (by omega), heap_chain o1 o2 hp.1 o4 hd, hl4⟩⟩⟩
    | panic ch => exact hp.elim
    | outgrown => exact hp.elim
  | ret => exact he.elim
  | exit id => exact he.elim
  | goto t => exact he.elim
  | panic ch => exact he.elim
  | outgrown => exact he.elim
/-- for b := range s.All() -/
theorem overAll {lo hi n cap g : Nat} {s : Nat → Nat} {op : Operand} {ps : Array Tmp} {assign body : Code} {Q : Exit → Act → World → Prop} {a : Act} {w : World}
    (hg : a.eval op = .func (.func 84) #[] #[.pointer (some ⟨g, 0, none⟩)]) (hps : ps.size = 1)
    (J : Nat → World → Prop) (K : World → Prop) (Kx : Code → World → Prop)
    (hm : ∀ p W, J p W → p ≤ 64 * n ∧ ∃ r, RawAt W lo hi s n cap r ∧ Told r ∧ Box W g 49 (.pointer (some ⟨s 14, 0, none⟩)))
    (hq : ∀ p W W' x y, J p W → Out x y W W' → (w.heap.size ≤ x ∨ y = 0) → J p W')
    (hqK : ∀ W W' x y, K W → Out x y W W' → w.heap.size ≤ x → K W')
    (hqX : ∀ c W W' x y, Kx c W → Out x y W W' → w.heap.size ≤ x → Kx c W')
    (hy : ∀ p W r (k : Nat) b, J p W → RawAt W lo hi s n cap r → nxr r.P (64 * n) p = k → r.M (k : Int) = some b → w.heap.size + 2 ≤ W.heap.size →
      assign.wpIn (Fence.wide.inRound (w.heap.size + 1)) 0 Tryz.prog (Exit.then (fun a1 Wa => Out 0 w.heap.size W Wa ∧ ∀ W2, Out (w.heap.size + 1) (w.heap.size + 2) Wa W2 → body.wpIn (Fence.wide.inRound (w.heap.size + 1)) 0 Tryz.prog (rPo w.heap.size W2 (J (k + 1)) Kx) a1 W2) (fun _ _ _ => False))
        { tmps := (ps.zip #[blkV k b]).foldl (fun t (p, v) => t.setIfInBounds p v) a.tmps, defers := [] } W)
    (he : ∀ p W r, J p W → RawAt W lo hi s n cap r → nxr r.P (64 * n) p = -1 → K W) (h0 : J 0 w)
    (hdone : ∀ W, K W → W.heap[w.heap.size]? = some (.deferred (some [])) → Q .normal { a with defers := { target := .collected w.heap.size, args := #[] } :: a.defers } W)
    (hstop : ∀ c W, Kx c W → W.heap[w.heap.size]? = some (.deferred (some [])) → c.wpIn Fence.wide 0 Tryz.prog Q { a with defers := { target := .collected w.heap.size, args := #[] } :: a.defers } W) :
    (Code.rangeFunc op ps assign body).wpIn Fence.wide 0 Tryz.prog Q a w := by
  refine range_any hg (enters_of Tryz.func84 (by kernel_rfl) rfl) K Kx ?H (fun W W' hK ho hd => hdone W' (hqK _ _ _ _ hK ho (by omega)) hd) (fun c W W' hK ho hd => hstop c W' (hqX _ _ _ _ _ hK ho (by omega)) hd)
  intro rec hrec W1 hW1
  have ho : Out 0 0 w W1 := by rw [hW1]; exact ((Out.refl 0 0 w).alloc _).alloc _
  have hs : W1.heap.size = w.heap.size + 2 := by rw [hW1]; simp
  have hd : W1.heap[w.heap.size]? = some (.deferred (some [])) := by rw [hW1]; exact two_first
  have hl : W1.heap[w.heap.size + 1]? = some (.loop (rec .ready none)) := by rw [hW1]; exact heap_alloc2_new _ _ _
  clear hW1
  refine (sAll_yield (lo := lo) (hi := hi) (n := n) (cap := cap) (s := s) (g := g) (l := w.heap.size + 1)
    (fun p W => J p W ∧ W.heap[w.heap.size]? = some (.deferred (some [])) ∧ W.heap[w.heap.size + 1]? = some (.loop (rec .ready none)))
    (fun W => K W ∧ W.heap[w.heap.size]? = some (.deferred (some [])) ∧ W.heap[w.heap.size + 1]? = some (.loop (rec .ready none)))
    (fun W => ∃ c, Kx c W ∧ W.heap[w.heap.size]? = some (.deferred (some [])) ∧ W.heap[w.heap.size + 1]? = some (.loop (rec .done (some c)))) (w := W1) ?m ?q ?qj ?qx ?y ?e ?z).mono ?_
  case m => exact fun p W h => hm p W h.1
  case q => exact fun p W W' x y h o hx => ⟨hq p W W' x y h.1 o (by omega), o.heap h.2.1 (by omega), o.heap h.2.2 (by omega)⟩
  case qj => exact fun W W' x y h o hx => ⟨hqK W W' x y h.1 o (by omega), o.heap h.2.1 (by omega), o.heap h.2.2 (by omega)⟩
  case qx => rintro W W' x y ⟨c, h1, h2, h3⟩ o hx; exact ⟨c, hqX c W W' x y h1 o (by omega), o.heap h2 (by omega), o.heap h3 (by omega)⟩
  case y =>
    rintro p W r k b ⟨hj, hd1, hl1⟩ hr hk hb
    rw [hs]
    refine round_of hrec hd1 hl1 (by simp [hps]) (hq (k + 1)) hqX (hy p W r k b hj hr hk hb ?_)
    have := heap_lt hl1
    omega
  case e => exact fun p W r h hr hk => ⟨he p W r h.1 hr hk, h.2⟩
  case z => exact ⟨hq 0 w W1 0 0 h0 ho (.inr rfl), hd, hl⟩
  rintro e W ⟨hv, ⟨h1, h2, h3⟩ | ⟨c, h1, h2, h3⟩⟩
  · exact ⟨hv, h2, .inl ⟨h1, h3⟩⟩
  · exact ⟨hv, h2, .inr ⟨c, h1, h3⟩⟩
/-- two readings of one space agree -/
theorem mp_one {w : World} {b : Nat} {f f' : Int → Option Value} (h : MpAt w b f) (h' : MpAt w b f') : f = f' := by
  obtain ⟨es, cl, hb, _, _, h1⟩ := h
  obtain ⟨es', cl', hb', _, _, h2⟩ := h'
  rw [hb] at hb'
  simp at hb'
  obtain ⟨rfl, rfl⟩ := hb'
  funext a
  apply Option.ext
  intro v
  rw [h1 a v, h2 a v]
theorem raw_one {w : World} {lo hi n cap : Nat} {s : Nat → Nat} {r r' : Raw} (h : RawAt w lo hi s n cap r) (h' : RawAt w lo hi s n cap r') : r.P = r'.P ∧ r.M = r'.M := by
  refine ⟨MapAt.one h.places h'.places, ?_⟩
  have e := mp_one h.objs h'.objs
  funext a
  have ea := congrFun e a
  unfold mapM at ea
  cases x : r.M a with
  | none =>
    rw [x] at ea
    cases y : r'.M a with
    | none => rfl
    | some b => rw [y] at ea; cases ea
  | some b =>
    rw [x] at ea
    cases y : r'.M a with
    | none => rw [y] at ea; cases ea
    | some c =>
      rw [y] at ea
      obtain ⟨b1, b2, b3, b4⟩ := b
      obtain ⟨c1, c2, c3, c4⟩ := c
      simp [blkV] at ea
      obtain ⟨rfl, rfl, rfl, rfl⟩ := ea
      rfl
end Go.Proofs.YtcpignkjlnjjmaaGreatDoor
namespace Go.Proofs.YtcpignkjlnjjmaaGreatDoor
open Go.RowKit
attribute [local go_sem] Oper.semAt_some
set_option linter.unusedVariables false
set_option linter.unusedSimpArgs false

set_option maxRecDepth 100000 in
set_option maxHeartbeats 4000000 in
theorem sAll_yieldS {lo hi n cap g l : Nat} {s : Nat → Nat} (I : Nat → World → Prop) (J Jx : World → Prop) {w : World}
    (hm : ∀ p w, I p w → p ≤ 64 * n ∧ ∃ r, RawAt w lo hi s n cap r ∧ Told r ∧ Box w g 49 (.pointer (some ⟨s 14, 0, none⟩)))
    (hq : ∀ p w1 w2 x y, I p w1 → Out x y w1 w2 → ((w.heap.size ≤ x ∧ y ≤ w.heap.size + 4) ∨ y = 0) → I p w2)
    (hqJ : ∀ w1 w2 x y, J w1 → Out x y w1 w2 → w.heap.size ≤ x ∧ y ≤ w.heap.size + 4 → J w2) (hqX : ∀ w1 w2 x y, Jx w1 → Out x y w1 w2 → w.heap.size ≤ x ∧ y ≤ w.heap.size + 4 → Jx w2)
    (hy : ∀ p w1 r (k : Nat) b, I p w1 → RawAt w1 lo hi s n cap r → nxr r.P (64 * n) p = k → r.M (k : Int) = some b → w.heap.size + 4 ≤ w1.heap.size → YieldAt Fence.wide 0 Tryz.prog l #[blkV k b] w1 fun e w' => Sv w.heap.size 4 w1 w' ∧ ((e = .returned (.bool true) ∧ I (k + 1) w') ∨ (e = .returned (.bool false) ∧ Jx w')))
    (he : ∀ p w1 r, I p w1 → RawAt w1 lo hi s n cap r → nxr r.P (64 * n) p = -1 → J w1) (h0 : I 0 w) :
    Calls Tryz.prog 84 #[.func (.yield l) #[] #[], .pointer (some ⟨g, 0, none⟩)] w fun e w' => (∃ v, e = .returned v) ∧ (J w' ∨ Jx w') := by
  obtain ⟨_, r0, hr0, _, hb0⟩ := hm 0 w h0
  have hW0 : Out 0 0 w (w.alloc (.cells #[.func (.yield l) #[] #[]] 134)) := (Out.refl 0 0 w).alloc _
  have hr1 := hr0.quiet hW0
  have c0 := (hb0.kept hW0 (.inr (Nat.zero_le _))).cell
  obtain ⟨d0, d1, d2, d3, d4, d5⟩ := hr1.cells
  have HM := hid_mk hm
  have HQ := hid_mk hq
  have HQJ := hid_mk hqJ
  have HQX := hid_mk hqX
  have HY := hid_mk hy
  have HE := hid_mk he
  have HI := hid_mk h0
  have HG : Hid (g < w.heap.size) := hb0.lt
  have HT : Hid (hi ≤ w.heap.size ∧ 4 ≤ w.heap.size) := ⟨hr0.top, hr0.tab.lt⟩
  clear hm hq hy he h0 hb0 hr0 hr1 hqJ hqX hW0
  refine (callsIn_wide (n := 0)).1 ?_
  refine callsIn_of_wp_marks Tryz.func84 rfl trivial ?_ rfl
  simp only [Tryz.ntmps84, List.size_toArray, List.length_cons, List.length_nil, Nat.reduceAdd, Nat.reduceSub, Array.replicate_succ, Array.replicate_zero, List.push_toArray, List.append_toArray, List.nil_append, List.cons_append]
  gi_wp2_with (first
    | (refine ⟨trivial, rfl, ?_⟩; gi_at_call 42; refine (callsIn_wide.2 (self_any _ _)).mono ?_; rintro e w1 ⟨rfl, rfl⟩)
    | (refine ⟨trivial, rfl, ?_⟩; gi_at_call 85; refine (callsIn_wide.2 (ball_any _ _)).mono ?_; rintro e w1 ⟨rfl, rfl⟩))
  obtain ⟨W1, hW1⟩ : ∃ W1, (w.alloc (.cells #[.func (.yield l) #[] #[]] 134)).alloc (.cells #[.pointer (some ⟨s 8 + 1, 0, none⟩)] 82) = W1 := ⟨_, rfl⟩
  have hs1 : W1.heap.size = w.heap.size + 2 := by rw [← hW1]; simp
  have ho1 : Out 0 0 w W1 := by rw [← hW1]; exact ((Out.refl 0 0 w).alloc _).alloc _
  have hy1 : Box W1 w.heap.size 134 (.func (.yield l) #[] #[]) := by rw [← hW1]; exact two_first
  have hx1 : Box W1 (w.heap.size + 1) 82 (.pointer (some ⟨s 8 + 1, 0, none⟩)) := by rw [← hW1]; exact heap_alloc2_new _ _ _
  rw [hW1]
  clear c0 d0 d1 d2 d3 d4 d5 hW1
  have HO1 := hid_mk ho1
  have HY1 := hid_mk hy1
  have HX1 := hid_mk hx1
  have HS1 := hid_mk hs1
  clear ho1 hy1 hx1
  refine range_any (gf := 97) (lb := #[.pointer (some ⟨w.heap.size + 1, 0, none⟩)]) rfl (enters_of Tryz.func97 (by kernel_rfl) rfl) J (fun c W => c = .ret ∧ Jx W) ?H ?done ?stop
  case H =>
    intro rec hrec W2 hW2
    rw [hs1]
    have HR := hid_mk hrec
    have ho2 : Out 0 0 W1 W2 := by rw [hW2]; exact ((Out.refl 0 0 W1).alloc _).alloc _
    have hd2 : W2.heap[w.heap.size + 2]? = some (.deferred (some [])) := by rw [hW2, ← hs1]; exact two_first
    have hl2 : W2.heap[w.heap.size + 2 + 1]? = some (.loop (rec .ready none)) := by rw [hW2, ← hs1]; exact heap_alloc2_new _ _ _
    refine (bAll_yield (lo := s 8) (hi := s 8 + 2) (b := s 8 + 1) (n := 64 * n) (g := w.heap.size + 1) (l := w.heap.size + 2 + 1)
      (fun p W => I p W ∧ Box W w.heap.size 134 (.func (.yield l) #[] #[]) ∧ Box W (w.heap.size + 1) 82 (.pointer (some ⟨s 8 + 1, 0, none⟩)) ∧ W.heap[w.heap.size + 2]? = some (.deferred (some [])) ∧ W.heap[w.heap.size + 2 + 1]? = some (.loop (rec .ready none)))
      (fun W => J W ∧ W.heap[w.heap.size + 2]? = some (.deferred (some [])) ∧ W.heap[w.heap.size + 2 + 1]? = some (.loop (rec .ready none)))
      (fun W => Jx W ∧ W.heap[w.heap.size + 2]? = some (.deferred (some [])) ∧ W.heap[w.heap.size + 2 + 1]? = some (.loop (rec .done (some .ret)))) ?hm1 ?hq1 ?hy1 ?he1 (w := W2) ?hz1).mono ?_
    case hm1 =>
      rintro p W ⟨a1, a2, a3, a4, a5⟩
      obtain ⟨b1, r, b2, b3, b4⟩ := HM.out p W a1
      exact ⟨b1, r.P, b2.places, a3⟩
    case hq1 =>
      rintro p W W' ⟨a1, a2, a3, a4, a5⟩ o
      exact ⟨HQ.out p W W' 0 0 a1 o (.inr rfl), a2.kept o (.inr (Nat.zero_le _)), a3.kept o (.inr (Nat.zero_le _)), o.heap a4 (.inr (Nat.zero_le _)), o.heap a5 (.inr (Nat.zero_le _))⟩
    case hz1 => exact ⟨HQ.out 0 W1 W2 0 0 (HQ.out 0 w W1 0 0 HI.out HO1.out (.inr rfl)) ho2 (.inr rfl), HY1.out.kept ho2 (.inr (Nat.zero_le _)), HX1.out.kept ho2 (.inr (Nat.zero_le _)), hd2, hl2⟩
    case he1 =>
      rintro p W S ⟨a1, a2, a3, a4, a5⟩ hS hn
      obtain ⟨b1, r, b2, b3, b4⟩ := HM.out p W a1
      rw [hS.one b2.places] at hn
      exact ⟨HE.out p W r a1 b2 hn, a4, a5⟩
    case hy1 =>
      rintro p W S k ⟨a1, a2, a3, a4, a5⟩ hS hn
      obtain ⟨b1, r, b2, b3, b4⟩ := HM.out p W a1
      rw [hS.one b2.places] at hn
      have hk : r.P k = true := by
        rcases nxr_cases r.P (64 * n) p with ⟨e1, _⟩ | ⟨i, e1, _, _, e3, _⟩
        · omega
        · rw [show k = i from by omega]; exact e3
      obtain ⟨⟨kd, sz, se, tg⟩, hb⟩ := b3 k hk
      have HYY := hid_mk (fun W' (o : Out (w.heap.size + 2 + 1) (w.heap.size + 2 + 1 + 1) W W') => HY.out p W' r k _ (HQ.out p W W' _ _ a1 o (.inl (by omega))) (b2.kept o (.inl (by have := HT.out; omega)) (.inl (by have := HT.out; omega))) hn hb (by have := heap_lt a5; have := o.size; omega))
      have A := hid_mk (And.intro a2 (And.intro a4 b4))
      have AX := hid_mk a3
      have B2 := hid_mk b2
      have HB := hid_mk hb
      have HL5 := hid_mk a5
      have hk0 : (0 : Int) ≤ (k : Int) := by omega
      refine round_any HR.out a5 rfl ?_
      clear a1 a2 a3 a4 a5 b1 b2 b3 b4 hS hn hk hb
      gi_wp2
      refine ⟨HL5.out, ?_⟩
      intro W3 ho3 hl3
      have ho4 : Out (w.heap.size + 2 + 1) (w.heap.size + 2 + 1 + 1) W W3.drew := ho3.drew
      have B3 := B2.out.kept ho4 (.inl (by have := HT.out; omega)) (.inl (by have := HT.out; omega))
      obtain ⟨d0, d1, d2, d3, d4, d5⟩ := B3.cells
      have c0 := (A.out.1.kept ho4 (.inl (by omega))).cell
      have c1 := (A.out.2.2.kept ho4 (.inl (by have := A.out.2.2.lt; have := B2.out.top; have := HT.out; have := HG.out; omega))).cell
      have hlk := B3.look false (k : Int)
      rw [show mapM r.M (k : Int) = some (.agg #[.int .i64 (k : Int), .int .i64 kd, .int .i64 sz, .int .i64 se, .int .i64 tg]) from by unfold mapM; rw [HB.out]; rfl] at hlk
      simp only [Option.getD_some, Bool.false_eq_true, if_false] at hlk
      obtain ⟨fn, tmps, assign, body, hy, hR⟩ := HYY.out W3.drew ho4
      have HRR := hid_mk ((roundIn_wide (m := 0) hR).mono (R' := fun e W4 => ∃ bb : Bool, e = .returned (.bool bb) ∧ Sv w.heap.size 4 W3.drew W4 ∧ (bb = true → I (k + 1) W4) ∧ (bb = false → Jx W4)) (fun e W4 h => yield_said h))
      have hmx : Tryz.prog.follows .mixedOrders = true := by kernel_rfl
      have HO4 := hid_mk ho4
      have HL3 := hid_mk hl3
      unfold blkV at hy
      clear hR ho3 ho4 B3 hl3
      gi_wp2_with fail
      gi_region_with_o (first | (refine ⟨rfl, ?_⟩; refine RoundIn.mono (F := Fence.wide.inRound (w.heap.size + 2 + 1)) HRR.out ?_; rintro e W4 ⟨bb, rfl, ho5, hI4, hx4⟩))
      all_goals
        have HO5 := hid_mk (ho5)
        have HH4 := hid_mk (And.intro hI4 hx4)
        clear ho5 hI4 hx4
        cases bb
        · gi_wp2
          refine ⟨HO5.out.heap HL3.out (by omega) (by omega), ?_⟩
          intro W5 ho6 hl6
          exact .inr ⟨rfl, HQX.out _ _ _ _ (HH4.out.2 (by first | rfl | trivial)) ho6 (by omega), ho6.heap (HO5.out.heap ((HO4.out.heap A.out.2.1 (.inl (by omega)))) (by omega) (by omega)) (.inl (by omega)), hl6⟩
        · gi_wp2
          refine ⟨HO5.out.heap HL3.out (by omega) (by omega), ?_⟩
          intro W5 ho6 hl6
          exact .inl ⟨rfl, HQ.out _ _ _ _ _ (HH4.out.1 (by first | rfl | trivial)) ho6 (.inl (by omega)), (ho6.heap (HO5.out.heap (A.out.1.kept HO4.out (.inl (by omega))) (by omega) (by omega)) (.inl (by omega))), (ho6.heap (HO5.out.heap (AX.out.kept HO4.out (.inl (by omega))) (by omega) (by omega)) (.inl (by omega))), ho6.heap (HO5.out.heap ((HO4.out.heap A.out.2.1 (.inl (by omega)))) (by omega) (by omega)) (.inl (by omega)), hl6⟩
    · rintro e W ⟨hv, ⟨a1, a2, a3⟩ | ⟨a1, a2, a3⟩⟩
      · exact ⟨hv, a2, .inl ⟨a1, a3⟩⟩
      · exact ⟨hv, a2, .inr ⟨.ret, ⟨rfl, a1⟩, a3⟩⟩
  case done =>
    intro W W' hJ ho hd
    have HJ := hid_mk (HQJ.out W W' _ _ hJ ho (by omega))
    have HD := hid_mk hd
    clear hJ ho hd
    gi_wp2
    refine ⟨by simp, .inl ⟨_, _, rfl, run_takeDeferred HD.out, ?_⟩⟩
    exact ⟨_, results_none rfl _ _ _, ⟨_, rfl⟩, .inl (HQJ.out _ _ _ _ HJ.out (out_putObj _ _ _) (by omega))⟩
  case stop =>
    rintro c W W' ⟨rfl, hJ⟩ ho hd
    have HJ := hid_mk (HQX.out W W' _ _ hJ ho (by omega))
    have HD := hid_mk hd
    clear hJ ho hd
    gi_wp2
    refine ⟨by simp, .inl ⟨_, _, rfl, run_takeDeferred HD.out, ?_⟩⟩
    exact ⟨_, results_none rfl _ _ _, ⟨_, rfl⟩, .inr (HQX.out _ _ _ _ HJ.out (out_putObj _ _ _) (by omega))⟩
end Go.Proofs.YtcpignkjlnjjmaaGreatDoor
namespace Go.Proofs.YtcpignkjlnjjmaaGreatDoor
open Go.RowKit
set_option linter.unusedVariables false
set_option linter.unusedSimpArgs false

/-- how a round may be left -/
def rPw (D : Nat) (W2 : World) (J : World → Prop) (Kx : Code → World → Prop) : Exit → Act → World → Prop
  | .normal, _, W => Sv D 6 W2 W ∧ J W
  | .ret, _, W => Sv D 6 W2 W ∧ Kx .ret W
  | .exit id, _, W => Sv D 6 W2 W ∧ Kx (.exit id) W
  | .goto t, _, W => Sv D 6 W2 W ∧ Kx (.goto t) W
  | .panic _, _, _ => False
  | .outgrown, _, _ => False
theorem sv_chain {D : Nat} {W Wa W2 W3 W' : World} (h1 : Sv D 6 W Wa) (h2 : Out (D + 1) (D + 2) Wa W2) (h3 : Sv D 6 W2 W3) (h4 : Out (D + 1) (D + 2) W3 W') : Sv (D + 2) 4 W W' :=
  fun k o a b h => h4.heap (h3.heap (h2.heap (h1.heap h (by omega) (by omega)) (by omega)) (by omega) (by omega)) (by omega)
theorem svd_chain {D : Nat} {W Wa W2 W3 W' : World} {o : Obj} (h1 : Sv D 6 W Wa) (h2 : Out (D + 1) (D + 2) Wa W2) (h3 : Sv D 6 W2 W3) (h4 : Out (D + 1) (D + 2) W3 W') (h : W.heap[D]? = some o) : W'.heap[D]? = some o :=
  h4.heap (h3.heap (h2.heap (h1.heap h (by omega) (by omega)) (by omega)) (by omega) (by omega)) (by omega)
theorem round_ofW {P : Program} {a : Act} {ps : Array Tmp} {assign body : Code} {D : Nat} {rec : LoopState → Option Code → Loop} {W : World} {args : Array Value} {J' : World → Prop} {Kx : Code → World → Prop}
    (hrec : RecOf a ps assign body D rec) (hd : W.heap[D]? = some (.deferred (some []))) (hl : W.heap[D + 1]? = some (.loop (rec .ready none))) (hs : args.size = ps.size)
    (hq : ∀ W W' x y, J' W → Out x y W W' → ((D ≤ x ∧ y ≤ D + 6) ∨ y = 0) → J' W') (hqX : ∀ c W W' x y, Kx c W → Out x y W W' → D ≤ x ∧ y ≤ D + 6 → Kx c W')
    (h : assign.wpIn (Fence.wide.inRound (D + 1)) 0 P (Exit.then (fun a1 Wa => Sv D 6 W Wa ∧ ∀ W2, Out (D + 1) (D + 2) Wa W2 → body.wpIn (Fence.wide.inRound (D + 1)) 0 P (rPw D W2 J' Kx) a1 W2) (fun _ _ _ => False))
      { tmps := (ps.zip args).foldl (fun t (p, v) => t.setIfInBounds p v) a.tmps, defers := [] } W) :
    YieldAt Fence.wide 0 P (D + 1) args W fun e W' => Sv (D + 2) 4 W W' ∧ ((e = .returned (.bool true) ∧ J' W' ∧ W'.heap[D]? = some (.deferred (some [])) ∧ W'.heap[D + 1]? = some (.loop (rec .ready none))) ∨
      (e = .returned (.bool false) ∧ ∃ c, Kx c W' ∧ W'.heap[D]? = some (.deferred (some [])) ∧ W'.heap[D + 1]? = some (.loop (rec .done (some c))))) := by
  refine round_any hrec hl hs (wpIn_mono h ?_)
  rintro e a1 Wa he
  cases e with
  | normal =>
    obtain ⟨o1, hb⟩ := he
    refine ⟨o1.heap hl (by omega) (by omega), fun W2 o2 hl2 => wpIn_mono (hb W2 o2) ?_⟩
    rintro e2 a2 W3 hp
    cases e2 with
    | normal => exact ⟨hp.1.heap hl2 (by omega) (by omega), fun W' o4 hl4 => ⟨sv_chain o1 o2 hp.1 o4, .inl ⟨rfl, hq _ _ _ _ hp.2 o4 (.inl (by omega)), svd_chain o1 o2 hp.1 o4 hd, hl4⟩⟩⟩
    | ret => exact ⟨hp.1.heap hl2 (by omega) (by omega), fun W' o4 hl4 => ⟨sv_chain o1 o2 hp.1 o4, .inr ⟨rfl, _, hqX _ _ _ _ _ hp.2 o4 (by omega), svd_chain o1 o2 hp.1 o4 hd, hl4⟩⟩⟩
    | exit id => exact ⟨hp.1.heap hl2 (by omega) (by omega), fun W' o4 hl4 => ⟨sv_chain o1 o2 hp.1 o4, .inr ⟨rfl, _, hqX _ _ _ _ _ hp.2 o4 (by omega), svd_chain o1 o2 hp.1 o4 hd, hl4⟩⟩⟩
    | goto t => exact ⟨hp.1.heap hl2 (by omega) (by omega), fun W' o4 hl4 => ⟨sv_chain o1 o2 hp.1 o4, .inr ⟨rfl, _, hqX _ _ _ _ _ hp.2 o4 (by omega), svd_chain o1 o2 hp.1 o4 hd, hl4⟩⟩⟩
    | panic ch => exact hp.elim
    | outgrown => exact hp.elim
  | ret => exact he.elim
  | exit id => exact he.elim
  | goto t => exact he.elim
  | panic ch => exact he.elim
  | outgrown => exact he.elim
/-- for b := range s.All(), or over what All has told -/
theorem overAllW {lo hi n cap g : Nat} {s : Nat → Nat} {op : Operand} {ps : Array Tmp} {assign body : Code} {Q : Exit → Act → World → Prop} {a : Act} {w : World}
    (hg : a.eval op = .func (.func 84) #[] #[.pointer (some ⟨g, 0, none⟩)]) (hps : ps.size = 1)
    (J : Nat → World → Prop) (K : World → Prop) (Kx : Code → World → Prop)
    (hm : ∀ p W, J p W → p ≤ 64 * n ∧ ∃ r, RawAt W lo hi s n cap r ∧ Told r ∧ Box W g 49 (.pointer (some ⟨s 14, 0, none⟩)))
    (hq : ∀ p W W' x y, J p W → Out x y W W' → ((w.heap.size ≤ x ∧ y ≤ w.heap.size + 6) ∨ y = 0) → J p W')
    (hqK : ∀ W W' x y, K W → Out x y W W' → w.heap.size ≤ x ∧ y ≤ w.heap.size + 6 → K W')
    (hqX : ∀ c W W' x y, Kx c W → Out x y W W' → w.heap.size ≤ x ∧ y ≤ w.heap.size + 6 → Kx c W')
    (hy : ∀ p W r (k : Nat) b, J p W → RawAt W lo hi s n cap r → nxr r.P (64 * n) p = k → r.M (k : Int) = some b → w.heap.size + 6 ≤ W.heap.size →
      assign.wpIn (Fence.wide.inRound (w.heap.size + 1)) 0 Tryz.prog (Exit.then (fun a1 Wa => Sv w.heap.size 6 W Wa ∧ ∀ W2, Out (w.heap.size + 1) (w.heap.size + 2) Wa W2 → body.wpIn (Fence.wide.inRound (w.heap.size + 1)) 0 Tryz.prog (rPw w.heap.size W2 (J (k + 1)) Kx) a1 W2) (fun _ _ _ => False))
        { tmps := (ps.zip #[blkV k b]).foldl (fun t (p, v) => t.setIfInBounds p v) a.tmps, defers := [] } W)
    (he : ∀ p W r, J p W → RawAt W lo hi s n cap r → nxr r.P (64 * n) p = -1 → K W) (h0 : J 0 w)
    (hdone : ∀ W, K W → W.heap[w.heap.size]? = some (.deferred (some [])) → Q .normal { a with defers := { target := .collected w.heap.size, args := #[] } :: a.defers } W)
    (hstop : ∀ c W, Kx c W → W.heap[w.heap.size]? = some (.deferred (some [])) → c.wpIn Fence.wide 0 Tryz.prog Q { a with defers := { target := .collected w.heap.size, args := #[] } :: a.defers } W) :
    (Code.rangeFunc op ps assign body).wpIn Fence.wide 0 Tryz.prog Q a w := by
  refine range_any hg (enters_of Tryz.func84 (by kernel_rfl) rfl) K Kx ?H (fun W W' hK ho hd => hdone W' (hqK _ _ _ _ hK ho (by omega)) hd) (fun c W W' hK ho hd => hstop c W' (hqX _ _ _ _ _ hK ho (by omega)) hd)
  intro rec hrec W1 hW1
  have ho : Out 0 0 w W1 := by rw [hW1]; exact ((Out.refl 0 0 w).alloc _).alloc _
  have hs : W1.heap.size = w.heap.size + 2 := by rw [hW1]; simp
  have hd : W1.heap[w.heap.size]? = some (.deferred (some [])) := by rw [hW1]; exact two_first
  have hl : W1.heap[w.heap.size + 1]? = some (.loop (rec .ready none)) := by rw [hW1]; exact heap_alloc2_new _ _ _
  clear hW1
  refine (sAll_yieldS (lo := lo) (hi := hi) (n := n) (cap := cap) (s := s) (g := g) (l := w.heap.size + 1)
    (fun p W => J p W ∧ W.heap[w.heap.size]? = some (.deferred (some [])) ∧ W.heap[w.heap.size + 1]? = some (.loop (rec .ready none)))
    (fun W => K W ∧ W.heap[w.heap.size]? = some (.deferred (some [])) ∧ W.heap[w.heap.size + 1]? = some (.loop (rec .ready none)))
    (fun W => ∃ c, Kx c W ∧ W.heap[w.heap.size]? = some (.deferred (some [])) ∧ W.heap[w.heap.size + 1]? = some (.loop (rec .done (some c)))) (w := W1) ?m ?q ?qj ?qx ?y ?e ?z).mono ?_
  case m => exact fun p W h => hm p W h.1
  case q => exact fun p W W' x y h o hx => ⟨hq p W W' x y h.1 o (by omega), o.heap h.2.1 (by omega), o.heap h.2.2 (by omega)⟩
  case qj => exact fun W W' x y h o hx => ⟨hqK W W' x y h.1 o (by omega), o.heap h.2.1 (by omega), o.heap h.2.2 (by omega)⟩
  case qx => rintro W W' x y ⟨c, h1, h2, h3⟩ o hx; exact ⟨c, hqX c W W' x y h1 o (by omega), o.heap h2 (by omega), o.heap h3 (by omega)⟩
  case y =>
    rintro p W r k b ⟨hj, hd1, hl1⟩ hr hk hb hz
    rw [hs] at hz ⊢
    exact round_ofW hrec hd1 hl1 (by simp [hps]) (hq (k + 1)) hqX (hy p W r k b hj hr hk hb (by omega))
  case e => exact fun p W r h hr hk => ⟨he p W r h.1 hr hk, h.2⟩
  case z => exact ⟨hq 0 w W1 0 0 h0 ho (.inr rfl), hd, hl⟩
  rintro e W ⟨hv, ⟨h1, h2, h3⟩ | ⟨c, h1, h2, h3⟩⟩
  · exact ⟨hv, h2, .inl ⟨h1, h3⟩⟩
  · exact ⟨hv, h2, .inr ⟨c, h1, h3⟩⟩
end Go.Proofs.YtcpignkjlnjjmaaGreatDoor
