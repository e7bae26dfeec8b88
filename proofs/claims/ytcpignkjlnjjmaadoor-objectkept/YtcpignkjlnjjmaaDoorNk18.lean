import Derived.Test.YtcpignkjlnjjmaaDoorNk17
import Derived.Test.YtcpignkjlnjjmaaDoorNk00
import Derived.RangeFuncNested
import Derived.RangeFuncBound
import Derived.RangeFuncCalls
import Derived.RangeFuncLeaves
import Derived.Shelf.Abstract
import Derived.Shelf.RegionOpen
import Derived.OwnWalkIn
import Derived.TacticsInMore
import Derived.LoopNIn
import Derived.LoopIn
import Derived.Test.YtcpignkjlnjjmaaDoorNk04
import Derived.Test.YtcpignkjlnjjmaaDoorNk08
import Derived.Test.YtcpignkjlnjjmaaDoorNk09
import Derived.Deep.RegionHeld3
namespace Go.Proofs.YtcpignkjlnjjmaaDoor
open Go.RowKit
set_option linter.unusedVariables false
set_option linter.unusedSimpArgs false

def firstV (r : Int) : Int := if plainB r then 26 else 2
theorem imm_at {c : Int} (h : validB_v 3 c = true) (w : World) : Calls Tryd.prog 36 #[.int .i64 c] w fun e w' => e = .returned (.agg #[.int .i64 3, .int .i64 c]) ∧ Out 0 0 w w' := by
  refine (imm_any_v c w).mono ?_
  rintro e w' ⟨rfl, q⟩
  unfold mkK_v mkN_v
  rw [if_pos h, if_pos h]
  exact ⟨rfl, out_below q⟩
theorem first_any (r : Int) (w : World) : Calls Tryd.prog 28 #[.int .i64 r] w fun e w' => e = .returned (.int .i64 (firstV r)) ∧ Out 0 0 w w' := by
  have HP := hid_mk (fun w => plain_any r w)
  unfold firstV
  cases h : plainB r
  · rw [h] at HP
    clear h
    go_enter Tryd.func28, Tryd.ntmps28
    go_wp2_with fail
    refine (HP.out _).mono ?_
    rintro e w1 ⟨rfl, rfl⟩
    go_wp2_with fail
    refine (imm_at (c := 0) (by decide) _).mono ?_
    rintro e w1 ⟨rfl, q1⟩
    go_wp2_with fail
    refine (word_yes (k := 3) (n := 0) (by decide) _).mono ?_
    rintro e w2 ⟨rfl, q2⟩
    go_wp2
    go_ret
    exact ⟨rfl, q1.trans q2⟩
  · rw [h] at HP
    clear h
    go_enter Tryd.func28, Tryd.ntmps28
    go_wp2_with fail
    refine (HP.out _).mono ?_
    rintro e w1 ⟨rfl, rfl⟩
    go_wp2_with fail
    refine (imm_at (c := 3) (by decide) _).mono ?_
    rintro e w1 ⟨rfl, q1⟩
    go_wp2_with fail
    refine (word_yes (k := 3) (n := 3) (by decide) _).mono ?_
    rintro e w2 ⟨rfl, q2⟩
    go_wp2
    go_ret
    exact ⟨rfl, q1.trans q2⟩
def rightB (r : Raw) (a i v : Int) : Bool := match r.M a with | none => false | some b => rgB r a b (roleV b.1 b.2.1 i) v
section
variable {w : World} {lo hi hb : Nat} {s : Nat → Nat} {n cap : Nat} {r : Raw}
end
end Go.Proofs.YtcpignkjlnjjmaaDoor
namespace Go.Proofs.YtcpignkjlnjjmaaDoor
open Go.RowKit
set_option linter.unusedVariables false
set_option linter.unusedSimpArgs false

theorem out_putObj (W : World) (l : Nat) (o : Obj) : Out l (l + 1) W (W.putObj l o) :=
  ⟨rfl, rfl, rfl, by simp, fun k _ h2 => World.putObj_heap_other (by omega)⟩
/-- the record of a loop at the world w: what it bears besides its state and its pending jump -/
def RecOf (a : Act) (ps : Array Tmp) (assign body : Code) (D : Nat) (rec : LoopState → Option Code → Loop) : Prop :=
  ∃ fn, rec = fun st pe => { state := st, pending := pe, fn, tmps := a.tmps, params := ps, assign, body, defers := D }
/-- a statement 'for .. := range g': the iterator is called with yield; behind it all have come (K), or a round has left (Kx) -/
theorem range_any {P : Program} {g : Operand} {ps : Array Tmp} {assign body : Code} {Q : Exit → Act → World → Prop} {a : Act} {w : World} {gf : Nat} {lb : Array Value}
    (hg : a.eval g = .func (.func gf) #[] lb) (eg : ∀ args w, (callFunc gf args).run P w = .ok (.enter gf args) w) (K : World → Prop) (Kx : Code → World → Prop)
    (H : ∀ rec, RecOf a ps assign body w.heap.size rec → ∀ W1, W1 = (w.alloc (.deferred (some []))).alloc (.loop (rec .ready none)) →
      Calls P gf (#[.func (.yield (w.heap.size + 1)) #[] #[]] ++ lb) W1 fun e W => (∃ v, e = .returned v) ∧ W.heap[w.heap.size]? = some (.deferred (some [])) ∧
        ((K W ∧ W.heap[w.heap.size + 1]? = some (.loop (rec .ready none))) ∨ ∃ c, Kx c W ∧ W.heap[w.heap.size + 1]? = some (.loop (rec .done (some c)))))
    (hdone : ∀ W W', K W → Out (w.heap.size + 1) (w.heap.size + 2) W W' → W'.heap[w.heap.size]? = some (.deferred (some [])) → Q .normal { a with defers := { target := .collected w.heap.size, args := #[] } :: a.defers } W')
    (hstop : ∀ c W W', Kx c W → Out (w.heap.size + 1) (w.heap.size + 2) W W' → W'.heap[w.heap.size]? = some (.deferred (some [])) → c.wpIn Fence.wide 0 P Q { a with defers := { target := .collected w.heap.size, args := #[] } :: a.defers } W') :
    (Code.rangeFunc g ps assign body).wpIn Fence.wide 0 P Q a w := by
  refine wpIn_rangeFunc ?_
  intro fn hfn
  obtain ⟨rec, hrec⟩ : ∃ rec : LoopState → Option Code → Loop, rec = fun st pe => { state := st, pending := pe, fn, tmps := a.tmps, params := ps, assign, body, defers := w.heap.size } := ⟨_, rfl⟩
  have hc := H rec ⟨fn, hrec⟩ _ rfl
  refine ⟨w.heap.size + 1, [{ target := .collected w.heap.size, args := #[] }], (w.alloc (.deferred (some []))).alloc (.loop (rec .ready none)), { target := .fn (.func gf) lb, args := #[.func (.yield (w.heap.size + 1)) #[] #[]] }, (w.alloc (.deferred (some []))).alloc (.loop (rec .ready none)), gf,
    #[.func (.yield (w.heap.size + 1)) #[] #[]] ++ lb, (w.alloc (.deferred (some []))).alloc (.loop (rec .ready none)), ?_, ?_, fun _ _ => trivial, ?_, fun h => by simp [Fence.wide] at h, ?_⟩
  · rw [hrec]; exact run_enterLoop_outer _ _ _ _ _
  · simp only [resolve, hg]
    simp [go_sem]
  · simp [invoke, go_sem, eg]
  · refine callsIn_wide.2 (hc.mono ?_)
    rintro e W ⟨⟨v, rfl⟩, hD, ⟨hK, hl⟩ | ⟨c, hK, hl⟩⟩
    · refine ⟨none, _, by have := run_endLoop (P := P) hl (by rw [hrec]; simp); rw [hrec] at this; exact this, hdone W _ hK (out_putObj _ _ _) ((World.putObj_heap_other (by omega)).trans hD)⟩
    · refine ⟨some c, _, by have := run_endLoop (P := P) hl (by rw [hrec]; simp); rw [hrec] at this; exact this, hstop c W _ hK (out_putObj _ _ _) ((World.putObj_heap_other (by omega)).trans hD)⟩
/-- how the body of a round may be left -/
def rPost (l : Nat) (rec : LoopState → Option Code → Loop) (R : Ending → World → Prop) : Exit → Act → World → Prop
  | .normal, _, W => W.heap[l]? = some (.loop (rec .busy none)) ∧ ∀ W', Out l (l + 1) W W' → W'.heap[l]? = some (.loop (rec .ready none)) → R (.returned (.bool true)) W'
  | .ret, _, W => W.heap[l]? = some (.loop (rec .busy none)) ∧ ∀ W', Out l (l + 1) W W' → W'.heap[l]? = some (.loop (rec .done (some .ret))) → R (.returned (.bool false)) W'
  | .exit id, _, W => W.heap[l]? = some (.loop (rec .busy none)) ∧ ∀ W', Out l (l + 1) W W' → W'.heap[l]? = some (.loop (rec .done (some (.exit id)))) → R (.returned (.bool false)) W'
  | .goto t, _, W => W.heap[l]? = some (.loop (rec .busy none)) ∧ ∀ W', Out l (l + 1) W W' → W'.heap[l]? = some (.loop (rec .done (some (.goto t)))) → R (.returned (.bool false)) W'
  | .panic _, _, _ => False
  | .outgrown, _, _ => False
/-- one round -/
theorem round_any {P : Program} {a : Act} {ps : Array Tmp} {assign body : Code} {D l : Nat} {rec : LoopState → Option Code → Loop} {W : World} {args : Array Value} {R : Ending → World → Prop}
    (hrec : RecOf a ps assign body D rec) (hl : W.heap[l]? = some (.loop (rec .ready none))) (hs : args.size = ps.size)
    (h : assign.wpIn (Fence.wide.inRound l) 0 P (Exit.then (fun a1 W1 => W1.heap[l]? = some (.loop (rec .ready none)) ∧
      ∀ W2, Out l (l + 1) W1 W2 → W2.heap[l]? = some (.loop (rec .busy none)) → body.wpIn (Fence.wide.inRound l) 0 P (rPost l rec R) a1 W2) (fun _ _ _ => False))
      { tmps := (ps.zip args).foldl (fun t (p, v) => t.setIfInBounds p v) a.tmps, defers := [] } W) : YieldAt Fence.wide 0 P l args W R := by
  obtain ⟨fn, rfl⟩ := hrec
  have hy := run_yield (P := P) (args := args) hl hs
  refine ⟨fn, _, assign, body, hy, roundIn_of_wpIn trivial (wpIn_mono h ?_)⟩
  rintro e a1 W1 he
  cases e with
  | normal =>
    obtain ⟨hl1, hb⟩ := he
    have hlt : l < W1.heap.size := heap_lt hl1
    refine ⟨_, run_beginRound hl1 rfl, wpIn_mono (hb _ (out_putObj _ _ _) (World.putObj_heap_same hlt)) ?_⟩
    rintro e2 a2 W3 hp
    cases e2 with
    | normal => exact ⟨_, _, run_endRound none hp.1, hp.2 _ (out_putObj _ _ _) (World.putObj_heap_same (heap_lt hp.1))⟩
    | ret => exact ⟨_, _, run_endRound (some .ret) hp.1, hp.2 _ (out_putObj _ _ _) (World.putObj_heap_same (heap_lt hp.1))⟩
    | exit id => exact ⟨_, _, run_endRound (some (.exit id)) hp.1, hp.2 _ (out_putObj _ _ _) (World.putObj_heap_same (heap_lt hp.1))⟩
    | goto t => exact ⟨_, _, run_endRound (some (.goto t)) hp.1, hp.2 _ (out_putObj _ _ _) (World.putObj_heap_same (heap_lt hp.1))⟩
    | panic ch => exact hp.elim
    | outgrown => exact hp.elim
  | ret => exact he.elim
  | exit id => exact he.elim
  | goto t => exact he.elim
  | panic ch => exact he.elim
  | outgrown => exact he.elim
end Go.Proofs.YtcpignkjlnjjmaaDoor
namespace Go.Proofs.YtcpignkjlnjjmaaDoor
open Go.RowKit
attribute [local go_sem] Oper.semAt_some
set_option linter.unusedVariables false
set_option linter.unusedSimpArgs false

theorem roundIn_wide {m : Nat} {P : Program} {l : Nat} {f : FuncId} {tmps : Array Value} {assign body : Code} {w : World} {R : Ending → World → Prop} (h : RoundIn Fence.wide 0 P l f tmps assign body w R) : RoundIn Fence.wide m P l f tmps assign body w R :=
  ⟨h.1, fun c cs _ => h.2 c cs (room_wide _)⟩
set_option maxRecDepth 100000 in
set_option maxHeartbeats 2000000 in
/-- the rounds of a loop over the numbers of a map: I p: those below p have come -/
theorem bAll_yield {lo hi b n g l : Nat} (I : Nat → World → Prop) (J Jx : World → Prop)
    (hm : ∀ p w, I p w → p ≤ n ∧ ∃ S, MapAt w lo hi b n S ∧ Box w g 79 (.pointer (some ⟨b, 0, none⟩)))
    (hq : ∀ p w w', I p w → Out 0 0 w w' → I p w')
    (hy : ∀ p w S (k : Nat), I p w → MapAt w lo hi b n S → nxr S n p = k → YieldAt Fence.wide 0 Tryd.prog l #[.int .i64 (k : Int)] w fun e w' => (e = .returned (.bool true) ∧ I (k + 1) w') ∨ (e = .returned (.bool false) ∧ Jx w'))
    (he : ∀ p w S, I p w → MapAt w lo hi b n S → nxr S n p = -1 → J w) {w : World} (h0 : I 0 w) :
    Calls Tryd.prog 97 #[.func (.yield l) #[] #[], .pointer (some ⟨g, 0, none⟩)] w fun e w' => (∃ v, e = .returned v) ∧ (J w' ∨ Jx w') := by
  obtain ⟨hp0, S0, hS0, hb0⟩ := hm 0 w h0
  have c0 := hb0.cell
  have HX := hid_mk (next_any hS0 0)
  rw [show (0 : Int).toNat = 0 from rfl] at HX
  have HM := hid_mk hm
  have HQ := hid_mk hq
  have HY := hid_mk hy
  have HE := hid_mk he
  have HI := hid_mk h0
  have HN := hid_mk hS0.bounds
  have HS := hid_mk hS0
  clear hm hq hy he h0 hS0 hb0 hp0
  refine (callsIn_wide (n := 0)).1 ?_
  refine callsIn_of_wp Tryd.func97 rfl trivial ?_ rfl
  simp only [Tryd.ntmps97, List.size_toArray, List.length_cons, List.length_nil, Nat.reduceAdd, Nat.reduceSub, Array.replicate_succ, Array.replicate_zero, List.push_toArray, List.append_toArray, List.nil_append, List.cons_append]
  gi_wp2_with (refine ⟨trivial, rfl, ?_⟩; gi_at_call 73; refine (callsIn_wide.2 HX.out).mono ?_; rintro e w1 ⟨rfl, ho⟩)
  have HI1 := hid_mk (HQ.out 0 w w1 HI.out ho)
  obtain ⟨z, hz⟩ : ∃ z, nxr S0 n 0 = z := ⟨_, rfl⟩
  have HZ : Hid (∃ S, MapAt w1 lo hi b n S ∧ nxr S n 0 = z) := ⟨S0, HS.out.quiet ho, hz⟩
  rw [hz]
  clear ho c0 hz HX
  gi_loopw [3] (fun v wr => ∃ (p : Nat) (S : Nat → Bool), v = .int .i64 (nxr S n p) ∧ MapAt wr lo hi b n S ∧ I p wr) (fun v _ => if intOf v < 0 then 0 else ((n : Int) - intOf v).toNat)
  case atStart =>
    obtain ⟨S, h1, rfl⟩ := HZ.out
    exact ⟨0, S, rfl, h1, HI1.out⟩
  case round =>
    obtain ⟨p, S, rfl, hS, hI⟩ := hrel
    rcases nxr_cases S n p with ⟨e1, e2⟩ | ⟨k, e1, k1, k2, k3, k4⟩
    · have HJ := hid_mk (HE.out p wr S hI hS e1)
      rw [e1]
      clear hS hI e1 e2
      gi_wp2
      exact bodyPost_end (results_none Tryd.results97 _ _ _) rfl ⟨⟨_, rfl⟩, .inl HJ.out⟩
    · obtain ⟨fn, tmps, assign, body, hy, hR⟩ := HY.out p wr S k hI hS e1
      have HR := hid_mk (roundIn_wide (m := 0) hR)
      have b0 : (0 : Int) ≤ (k : Int) := by omega
      have b1 : (k : Int) ≤ 262144 := by have := HN.out; omega
      rw [e1]
      clear hS hI e1 hR
      gi_wp2
      refine ⟨rfl, HR.out.mono ?_⟩
      clear HR hy
      rintro e w2 (⟨rfl, hI2⟩ | ⟨rfl, hx⟩)
      · obtain ⟨p2, S2, hS2, hb2⟩ := HM.out _ _ hI2
        have c2 := hb2.cell
        have HX2 := hid_mk (next_any hS2 ((k : Int) + 1))
        rw [show ((k : Int) + 1).toNat = k + 1 from by omega] at HX2
        have HI2 := hid_mk hI2
        have HS2 := hid_mk hS2
        clear hI2 hS2 hb2 p2
        gi_wp2_with (refine ⟨trivial, rfl, ?_⟩; gi_at_call 73; refine (callsIn_wide.2 HX2.out).mono ?_; rintro e w3 ⟨rfl, ho⟩)
        go_roundw
        case rel => exact ⟨k + 1, S2, rfl, HS2.out.quiet ho, HQ.out _ _ _ HI2.out ho⟩
        case measure =>
          have e : ∀ v : Int, intOf (.int .i64 v) = v := fun _ => rfl
          simp only [e]
          rw [if_neg (show ¬ ((k : Int) < 0) from by omega)]
          rcases nxr_cases S2 n (k + 1) with ⟨e1, _⟩ | ⟨k', e1, q1, q2, _, _⟩
          · rw [e1, if_pos (by omega)]; omega
          · rw [e1, if_neg (by omega)]; have := q2 k1; omega
      · have HX := hid_mk hx
        clear hx
        gi_wp2
        exact bodyPost_ret (results_none Tryd.results97 _ _ _) rfl ⟨⟨_, rfl⟩, .inr HX.out⟩
end Go.Proofs.YtcpignkjlnjjmaaDoor
namespace Go.Proofs.YtcpignkjlnjjmaaDoor
open Go.RowKit
set_option linter.unusedVariables false
set_option linter.unusedSimpArgs false

/-- what is written beyond the first world's end counts for nothing -/
theorem out_far {lo hi x y : Nat} {a b c : World} (h : Out lo hi a b) (g : Out x y b c) (hx : a.heap.size ≤ x ∨ y = 0) : Out lo hi a c := by
  rcases hx with hx | hx
  · exact h.past g hx
  · subst hx
    exact h.trans ⟨g.1, g.2.1, g.2.2.1, g.size, fun k h1 _ => g.block h1 (by omega)⟩
def noOut (Q : Exit → Act → World → Prop) : Exit → Act → World → Prop
  | .outgrown, _, _ => False
  | e, a, w => Q e a w
def noDefer (ops : Array Oper) : Bool := ops.toList.all fun o => match o.op with | .defer _ => false | _ => true
theorem noDefer_at {ops : Array Oper} (h : noDefer ops = true) {i : Nat} {o : Oper} (ho : ops[i]? = some o) : ∀ c, o.op ≠ .defer c := by
  intro c e
  unfold noDefer at h
  rw [List.all_eq_true] at h
  have := h o (List.mem_of_getElem? (by simpa using ho))
  rw [e] at this
  cases this
theorem rows_wide {n : Nat} {P : Program} {row : String} {args : Array Value} {w : World} {R : Value → World → Prop} (h : Rows P row args w R) : RowsIn Fence.wide n P row args w R :=
  fun c cs _ => by
    obtain ⟨v, w', hr, hs⟩ := h c cs
    exact ⟨v, w', hr, stepsIn_wide.2 hs⟩
section
variable {P : Program} {ops : Array Oper} {Q : Exit → Act → World → Prop} {md : Region.Mode} {l : Nat}
theorem wpOpIn_round {i : Nat} {K K' : Act → World → Prop} {a : Act} {w : World} (hd : noDefer ops = true) (hk : ∀ a w, K a w → K' a w) (h : wpOp P ops (noOut Q) i K a w) : wpOpIn (Fence.wide.inRound l) 0 P ops Q i K' a w := by
  unfold wpOp at h
  unfold wpOpIn
  cases ho : ops[i]? with
  | none => rw [ho] at h; exact hk _ _ h
  | some o =>
    rw [ho] at h
    simp only at h ⊢
    by_cases hw : Region.wanted o (yielded ops a.tmps) = true
    · rw [if_pos hw] at h ⊢
      rcases h with h | ⟨_, hl⟩
      case inr =>
        obtain ⟨_, _, hf⟩ := hl
        exact hf.elim
      refine ⟨fun _ _ => trivial, ?_⟩
      rw [Oper.semAt_eq _ _ _ (noDefer_at hd ho)]
      unfold Oper.wp at h
      generalize (execOp a.eval o).run P w = r at *
      cases r with
      | ok x w' =>
        cases x <;> simp only [Oper.upon, Oper.uponIn] at h ⊢
        case value u => exact hk _ _ h
        case skip => exact hk _ _ h
        case defer d => exact hk _ _ h
        case enter f args =>
          refine ⟨fun hh => by simp [Fence.wide] at hh, callsIn_wide.2 (h.mono ?_)⟩
          intro e w'' he
          cases e with
          | returned u => exact hk _ _ he
          | panicked c => exact he
          | outgrown =>
            obtain ⟨_, _, hf⟩ := he
            exact hf.elim
        case row row args =>
          refine ⟨fun hh => by simp [Fence.wide] at hh, rows_wide (h.mono ?_)⟩
          intro u w'' he
          exact hk _ _ he
      | halt x w' =>
        cases x <;> simp only [Oper.upon, Oper.uponIn] at h ⊢
        case panic u => exact h
    · rw [if_neg hw] at h ⊢
      exact ⟨fun _ _ => trivial, hk _ _ h⟩
theorem wpAnyIn_round (hd : noDefer ops = true) : ∀ (fuel : Nat) (listed : Array Bool) (a : Act) (w : World), wpAny P md ops (noOut Q) fuel listed a w → wpAnyIn (Fence.wide.inRound l) 0 P md ops Q fuel listed a w
  | 0, _, _, _, h => h
  | fuel + 1, _, _, _, h => ⟨h.1, fun i hi => wpOpIn_round hd (fun a' w' h' => wpAnyIn_round hd fuel _ a' w' h') (h.2 i hi)⟩
/-- a region that draws its order, in a round: walked as anywhere -/
theorem region_round {id : Nat} {S : World → Prop} {a : Act} {w : World} (hm : P.follows .mixedOrders = true) (hd : noDefer ops = true) (hS : S w.drew)
    (h : S w.drew → wpAnyH P .any ops (noOut Q) S ops.size (Array.replicate ops.size false) a w.drew) : (Code.region id ops true).wpIn (Fence.wide.inRound l) 0 P Q a w :=
  wpIn_region_any hm (wpAnyIn_round hd _ _ _ _ (wpAny_of_held _ _ _ _ (h hS)))
end
/-- an end that is no other than the normal one -/
def onlyN (K : Act → World → Prop) : Exit → Act → World → Prop
  | .normal, a, w => K a w
  | _, _, _ => False
theorem onlyN_sub {Q : Exit → Act → World → Prop} : ∀ (e : Exit) (a : Act) (w : World), onlyN (Q .normal) e a w → Q e a w
  | .normal, _, _, h => h
  | .ret, _, _, h => h.elim
  | .exit _, _, _, h => h.elim
  | .goto _, _, _, h => h.elim
  | .panic _, _, _, h => h.elim
  | .outgrown, _, _, h => h.elim
theorem wpIn_only {P : Program} {c : Code} {Q : Exit → Act → World → Prop} {a : Act} {w : World} (h : c.wp P (onlyN (Q .normal)) a w) : c.wpIn Fence.wide 0 P Q a w :=
  wpIn_mono (wpIn_wide.2 h) onlyN_sub
/-- a region that draws its order, in a round: walked as anywhere -/
theorem region_roundN {P : Program} {ops : Array Oper} {Q : Exit → Act → World → Prop} {l id : Nat} {S : World → Prop} {a : Act} {w : World} (hm : P.follows .mixedOrders = true) (hd : noDefer ops = true) (hS : S w.drew)
    (h : S w.drew → wpAnyH P .any ops (noOut (onlyN (Q .normal))) S ops.size (Array.replicate ops.size false) a w.drew) : (Code.region id ops true).wpIn (Fence.wide.inRound l) 0 P Q a w :=
  wpIn_mono (region_round hm hd hS h) onlyN_sub
end Go.Proofs.YtcpignkjlnjjmaaDoor
