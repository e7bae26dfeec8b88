import Derived.Test.YtjbbkeoolodeaabDoorMg
import Derived.Test.YtjbbkeoolodeaabDoorMj
import Derived.Test.YtjbbkeoolodeaabDoorMl
import Derived.Test.YtjbbkeoolodeaabDoorMa
namespace Go.Proofs.YtjbbkeoolodeaabDoor
open Go.RowKit
attribute [local go_sem] Oper.semAt_some
set_option linter.unusedVariables false
set_option linter.unusedSimpArgs false

set_option maxRecDepth 100000 in
set_option maxHeartbeats 4000000 in
theorem sAll_yieldS {lo hi n cap g l : Nat} {s : Nat → Nat} (I : Nat → World → Prop) (J Jx : World → Prop) {w : World}
    (hm : ∀ p w, I p w → p ≤ 64 * n ∧ ∃ r, RawAt w lo hi s n cap r ∧ Told r ∧ Box w g 30 (.pointer (some ⟨s 14, 0, none⟩)))
    (hq : ∀ p w1 w2 x y, I p w1 → Out x y w1 w2 → ((w.heap.size ≤ x ∧ y ≤ w.heap.size + 4) ∨ y = 0) → I p w2)
    (hqJ : ∀ w1 w2 x y, J w1 → Out x y w1 w2 → w.heap.size ≤ x ∧ y ≤ w.heap.size + 4 → J w2) (hqX : ∀ w1 w2 x y, Jx w1 → Out x y w1 w2 → w.heap.size ≤ x ∧ y ≤ w.heap.size + 4 → Jx w2)
    (hy : ∀ p w1 r (k : Nat) b, I p w1 → RawAt w1 lo hi s n cap r → nxr r.P (64 * n) p = k → r.M (k : Int) = some b → w.heap.size + 4 ≤ w1.heap.size → YieldAt Fence.wide 0 Tryd.prog l #[blkV k b] w1 fun e w' => Sv w.heap.size 4 w1 w' ∧ ((e = .returned (.bool true) ∧ I (k + 1) w') ∨ (e = .returned (.bool false) ∧ Jx w')))
    (he : ∀ p w1 r, I p w1 → RawAt w1 lo hi s n cap r → nxr r.P (64 * n) p = -1 → J w1) (h0 : I 0 w) :
    Calls Tryd.prog 49 #[.func (.yield l) #[] #[], .pointer (some ⟨g, 0, none⟩)] w fun e w' => (∃ v, e = .returned v) ∧ (J w' ∨ Jx w') := by
  obtain ⟨_, r0, hr0, _, hb0⟩ := hm 0 w h0
  have hW0 : Out 0 0 w (w.alloc (.cells #[.func (.yield l) #[] #[]] 92)) := (Out.refl 0 0 w).alloc _
  have hr1 := hr0.quiet hW0
  have c0 := (hb0.kept hW0 (.inr (Nat.zero_le _))).cell
  obtain ⟨d0, d1, d2, d3, d4, d5⟩ := hr1.cells
  have HM := hid_mk hm
  have HQ := hid_mk hq
  have HQJ := hid_mk hqJ
  have HQX := hid_mk hqX
  have HY := hid_mk hy
  have HE := hid_mk he
  have HI := hid_mk h0
  have HG : Hid (g < w.heap.size) := hb0.lt
  have HT : Hid (hi ≤ w.heap.size ∧ 4 ≤ w.heap.size) := ⟨hr0.top, hr0.tab.lt⟩
  clear hm hq hy he h0 hb0 hr0 hr1 hqJ hqX hW0
  refine (callsIn_wide (n := 0)).1 ?_
  refine callsIn_of_wp_marks Tryd.func49 rfl trivial ?_ rfl
  simp only [Tryd.ntmps49, List.size_toArray, List.length_cons, List.length_nil, Nat.reduceAdd, Nat.reduceSub, Array.replicate_succ, Array.replicate_zero, List.push_toArray, List.append_toArray, List.nil_append, List.cons_append]
  gi_wp2_with (first
    | (refine ⟨trivial, rfl, ?_⟩; gi_at_call 32; refine (callsIn_wide.2 (self_any _ _)).mono ?_; rintro e w1 ⟨rfl, rfl⟩)
    | (refine ⟨trivial, rfl, ?_⟩; gi_at_call 50; refine (callsIn_wide.2 (ball_any _ _)).mono ?_; rintro e w1 ⟨rfl, rfl⟩))
  obtain ⟨W1, hW1⟩ : ∃ W1, (w.alloc (.cells #[.func (.yield l) #[] #[]] 92)).alloc (.cells #[.pointer (some ⟨s 8 + 1, 0, none⟩)] 78) = W1 := ⟨_, rfl⟩
  have hs1 : W1.heap.size = w.heap.size + 2 := by rw [← hW1]; simp
  have ho1 : Out 0 0 w W1 := by rw [← hW1]; exact ((Out.refl 0 0 w).alloc _).alloc _
  have hy1 : Box W1 w.heap.size 92 (.func (.yield l) #[] #[]) := by rw [← hW1]; exact two_first
  have hx1 : Box W1 (w.heap.size + 1) 78 (.pointer (some ⟨s 8 + 1, 0, none⟩)) := by rw [← hW1]; exact heap_alloc2_new _ _ _
  rw [hW1]
  clear c0 d0 d1 d2 d3 d4 d5 hW1
  have HO1 := hid_mk ho1
  have HY1 := hid_mk hy1
  have HX1 := hid_mk hx1
  have HS1 := hid_mk hs1
  clear ho1 hy1 hx1
  refine range_any (gf := 72) (lb := #[.pointer (some ⟨w.heap.size + 1, 0, none⟩)]) rfl (enters_of Tryd.func72 (by kernel_rfl) rfl) J (fun c W => c = .ret ∧ Jx W) ?H ?done ?stop
  case H =>
    intro rec hrec W2 hW2
    rw [hs1]
    have HR := hid_mk hrec
    have ho2 : Out 0 0 W1 W2 := by rw [hW2]; exact ((Out.refl 0 0 W1).alloc _).alloc _
    have hd2 : W2.heap[w.heap.size + 2]? = some (.deferred (some [])) := by rw [hW2, ← hs1]; exact two_first
    have hl2 : W2.heap[w.heap.size + 2 + 1]? = some (.loop (rec .ready none)) := by rw [hW2, ← hs1]; exact heap_alloc2_new _ _ _
    refine (bAll_yield (lo := s 8) (hi := s 8 + 2) (b := s 8 + 1) (n := 64 * n) (g := w.heap.size + 1) (l := w.heap.size + 2 + 1)
      (fun p W => I p W ∧ Box W w.heap.size 92 (.func (.yield l) #[] #[]) ∧ Box W (w.heap.size + 1) 78 (.pointer (some ⟨s 8 + 1, 0, none⟩)) ∧ W.heap[w.heap.size + 2]? = some (.deferred (some [])) ∧ W.heap[w.heap.size + 2 + 1]? = some (.loop (rec .ready none)))
      (fun W => J W ∧ W.heap[w.heap.size + 2]? = some (.deferred (some [])) ∧ W.heap[w.heap.size + 2 + 1]? = some (.loop (rec .ready none)))
      (fun W => Jx W ∧ W.heap[w.heap.size + 2]? = some (.deferred (some [])) ∧ W.heap[w.heap.size + 2 + 1]? = some (.loop (rec .done (some .ret)))) ?hm1 ?hq1 ?hy1 ?he1 (w := W2) ?hz1).mono ?_
    case hm1 =>
      rintro p W ⟨a1, a2, a3, a4, a5⟩
      obtain ⟨b1, r, b2, b3, b4⟩ := HM.out p W a1
      exact ⟨b1, r.P, b2.places, a3⟩
    case hq1 =>
      rintro p W W' ⟨a1, a2, a3, a4, a5⟩ o
      exact ⟨HQ.out p W W' 0 0 a1 o (.inr rfl), a2.kept o (.inr (Nat.zero_le _)), a3.kept o (.inr (Nat.zero_le _)), o.heap a4 (.inr (Nat.zero_le _)), o.heap a5 (.inr (Nat.zero_le _))⟩
    case hz1 => exact ⟨HQ.out 0 W1 W2 0 0 (HQ.out 0 w W1 0 0 HI.out HO1.out (.inr rfl)) ho2 (.inr rfl), HY1.out.kept ho2 (.inr (Nat.zero_le _)), HX1.out.kept ho2 (.inr (Nat.zero_le _)), hd2, hl2⟩
    case he1 =>
      rintro p W S ⟨a1, a2, a3, a4, a5⟩ hS hn
      obtain ⟨b1, r, b2, b3, b4⟩ := HM.out p W a1
      rw [hS.one b2.places] at hn
      exact ⟨HE.out p W r a1 b2 hn, a4, a5⟩
    case hy1 =>
      rintro p W S k ⟨a1, a2, a3, a4, a5⟩ hS hn
      obtain ⟨b1, r, b2, b3, b4⟩ := HM.out p W a1
      rw [hS.one b2.places] at hn
      have hk : r.P k = true := by
        rcases nxr_cases r.P (64 * n) p with ⟨e1, _⟩ | ⟨i, e1, _, _, e3, _⟩
        · omega
        · rw [show k = i from by omega]; exact e3
      obtain ⟨⟨kd, sz, se, tg⟩, hb⟩ := b3 k hk
      have HYY := hid_mk (fun W' (o : Out (w.heap.size + 2 + 1) (w.heap.size + 2 + 1 + 1) W W') => HY.out p W' r k _ (HQ.out p W W' _ _ a1 o (.inl (by omega))) (b2.kept o (.inl (by have := HT.out; omega)) (.inl (by have := HT.out; omega))) hn hb (by have := heap_lt a5; have := o.size; omega))
      have A := hid_mk (And.intro a2 (And.intro a4 b4))
      have AX := hid_mk a3
      have B2 := hid_mk b2
      have HB := hid_mk hb
      have HL5 := hid_mk a5
      have hk0 : (0 : Int) ≤ (k : Int) := by omega
      refine round_any HR.out a5 rfl ?_
      clear a1 a2 a3 a4 a5 b1 b2 b3 b4 hS hn hk hb
      gi_wp2
      refine ⟨HL5.out, ?_⟩
      intro W3 ho3 hl3
      have ho4 : Out (w.heap.size + 2 + 1) (w.heap.size + 2 + 1 + 1) W W3.drew := ho3.drew
      have B3 := B2.out.kept ho4 (.inl (by have := HT.out; omega)) (.inl (by have := HT.out; omega))
      obtain ⟨d0, d1, d2, d3, d4, d5⟩ := B3.cells
      have c0 := (A.out.1.kept ho4 (.inl (by omega))).cell
      have c1 := (A.out.2.2.kept ho4 (.inl (by have := A.out.2.2.lt; have := B2.out.top; have := HT.out; have := HG.out; omega))).cell
      have hlk := B3.look false (k : Int)
      rw [show mapM r.M (k : Int) = some (.agg #[.int .i64 (k : Int), .int .i64 kd, .int .i64 sz, .int .i64 se, .int .i64 tg]) from by unfold mapM; rw [HB.out]; rfl] at hlk
      simp only [Option.getD_some, Bool.false_eq_true, if_false] at hlk
      obtain ⟨fn, tmps, assign, body, hy, hR⟩ := HYY.out W3.drew ho4
      have HRR := hid_mk ((roundIn_wide (m := 0) hR).mono (R' := fun e W4 => ∃ bb : Bool, e = .returned (.bool bb) ∧ Sv w.heap.size 4 W3.drew W4 ∧ (bb = true → I (k + 1) W4) ∧ (bb = false → Jx W4)) (fun e W4 h => yield_said h))
      have hmx : Tryd.prog.follows .mixedOrders = true := by kernel_rfl
      have HO4 := hid_mk ho4
      have HL3 := hid_mk hl3
      unfold blkV at hy
      clear hR ho3 ho4 B3 hl3
      gi_wp2_with fail
      gi_region_with_o (first | (refine ⟨rfl, ?_⟩; refine RoundIn.mono (F := Fence.wide.inRound (w.heap.size + 2 + 1)) HRR.out ?_; rintro e W4 ⟨bb, rfl, ho5, hI4, hx4⟩))
      all_goals
        have HO5 := hid_mk (ho5)
        have HH4 := hid_mk (And.intro hI4 hx4)
        clear ho5 hI4 hx4
        cases bb
        · gi_wp2
          refine ⟨HO5.out.heap HL3.out (by omega) (by omega), ?_⟩
          intro W5 ho6 hl6
          exact .inr ⟨rfl, HQX.out _ _ _ _ (HH4.out.2 (by first | rfl | trivial)) ho6 (by omega), ho6.heap (HO5.out.heap ((HO4.out.heap A.out.2.1 (.inl (by omega)))) (by omega) (by omega)) (.inl (by omega)), hl6⟩
        · gi_wp2
          refine ⟨HO5.out.heap HL3.out (by omega) (by omega), ?_⟩
          intro W5 ho6 hl6
          exact .inl ⟨rfl, HQ.out _ _ _ _ _ (HH4.out.1 (by first | rfl | trivial)) ho6 (.inl (by omega)), (ho6.heap (HO5.out.heap (A.out.1.kept HO4.out (.inl (by omega))) (by omega) (by omega)) (.inl (by omega))), (ho6.heap (HO5.out.heap (AX.out.kept HO4.out (.inl (by omega))) (by omega) (by omega)) (.inl (by omega))), ho6.heap (HO5.out.heap ((HO4.out.heap A.out.2.1 (.inl (by omega)))) (by omega) (by omega)) (.inl (by omega)), hl6⟩
    · rintro e W ⟨hv, ⟨a1, a2, a3⟩ | ⟨a1, a2, a3⟩⟩
      · exact ⟨hv, a2, .inl ⟨a1, a3⟩⟩
      · exact ⟨hv, a2, .inr ⟨.ret, ⟨rfl, a1⟩, a3⟩⟩
  case done =>
    intro W W' hJ ho hd
    have HJ := hid_mk (HQJ.out W W' _ _ hJ ho (by omega))
    have HD := hid_mk hd
    clear hJ ho hd
    gi_wp2
    refine ⟨by simp, .inl ⟨_, _, rfl, run_takeDeferred HD.out, ?_⟩⟩
    exact ⟨_, results_none rfl _ _ _, ⟨_, rfl⟩, .inl (HQJ.out _ _ _ _ HJ.out (out_putObj _ _ _) (by omega))⟩
  case stop =>
    rintro c W W' ⟨rfl, hJ⟩ ho hd
    have HJ := hid_mk (HQX.out W W' _ _ hJ ho (by omega))
    have HD := hid_mk hd
    clear hJ ho hd
    gi_wp2
    refine ⟨by simp, .inl ⟨_, _, rfl, run_takeDeferred HD.out, ?_⟩⟩
    exact ⟨_, results_none rfl _ _ _, ⟨_, rfl⟩, .inr (HQX.out _ _ _ _ HJ.out (out_putObj _ _ _) (by omega))⟩
end Go.Proofs.YtjbbkeoolodeaabDoor
namespace Go.Proofs.YtjbbkeoolodeaabDoor
open Go.RowKit
set_option linter.unusedVariables false
set_option linter.unusedSimpArgs false

/-- how a round may be left -/
def rPw (D : Nat) (W2 : World) (J : World → Prop) (Kx : Code → World → Prop) : Exit → Act → World → Prop
  | .normal, _, W => Sv D 6 W2 W ∧ J W
  | .ret, _, W => Sv D 6 W2 W ∧ Kx .ret W
  | .exit id, _, W => Sv D 6 W2 W ∧ Kx (.exit id) W
  | .goto t, _, W => Sv D 6 W2 W ∧ Kx (.goto t) W
  | .panic _, _, _ => False
  | .outgrown, _, _ => False
theorem sv_chain {D : Nat} {W Wa W2 W3 W' : World} (h1 : Sv D 6 W Wa) (h2 : Out (D + 1) (D + 2) Wa W2) (h3 : Sv D 6 W2 W3) (h4 : Out (D + 1) (D + 2) W3 W') : Sv (D + 2) 4 W W' :=
  fun k o a b h => h4.heap (h3.heap (h2.heap (h1.heap h (by omega) (by omega)) (by omega)) (by omega) (by omega)) (by omega)
theorem svd_chain {D : Nat} {W Wa W2 W3 W' : World} {o : Obj} (h1 : Sv D 6 W Wa) (h2 : Out (D + 1) (D + 2) Wa W2) (h3 : Sv D 6 W2 W3) (h4 : Out (D + 1) (D + 2) W3 W') (h : W.heap[D]? = some o) : W'.heap[D]? = some o :=
  h4.heap (h3.heap (h2.heap (h1.heap h (by omega) (by omega)) (by omega)) (by omega) (by omega)) (by omega)
theorem round_ofW {P : Program} {a : Act} {ps : Array Tmp} {assign body : Code} {D : Nat} {rec : LoopState → Option Code → Loop} {W : World} {args : Array Value} {J' : World → Prop} {Kx : Code → World → Prop}
    (hrec : RecOf a ps assign body D rec) (hd : W.heap[D]? = some (.deferred (some []))) (hl : W.heap[D + 1]? = some (.loop (rec .ready none))) (hs : args.size = ps.size)
    (hq : ∀ W W' x y, J' W → Out x y W W' → ((D ≤ x ∧ y ≤ D + 6) ∨ y = 0) → J' W') (hqX : ∀ c W W' x y, Kx c W → Out x y W W' → D ≤ x ∧ y ≤ D + 6 → Kx c W')
    (h : assign.wpIn (Fence.wide.inRound (D + 1)) 0 P (Exit.then (fun a1 Wa => Sv D 6 W Wa ∧ ∀ W2, Out (D + 1) (D + 2) Wa W2 → body.wpIn (Fence.wide.inRound (D + 1)) 0 P (rPw D W2 J' Kx) a1 W2) (fun _ _ _ => False))
      { tmps := (ps.zip args).foldl (fun t (p, v) => t.setIfInBounds p v) a.tmps, defers := [] } W) :
    YieldAt Fence.wide 0 P (D + 1) args W fun e W' => Sv (D + 2) 4 W W' ∧ ((e = .returned (.bool true) ∧ J' W' ∧ W'.heap[D]? = some (.deferred (some [])) ∧ W'.heap[D + 1]? = some (.loop (rec .ready none))) ∨
      (e = .returned (.bool false) ∧ ∃ c, Kx c W' ∧ W'.heap[D]? = some (.deferred (some [])) ∧ W'.heap[D + 1]? = some (.loop (rec .done (some c))))) := by
  refine round_any hrec hl hs (wpIn_mono h ?_)
  rintro e a1 Wa he
  cases e with
  | normal =>
    obtain ⟨o1, hb⟩ := he
    refine ⟨o1.heap hl (by omega) (by omega), fun W2 o2 hl2 => wpIn_mono (hb W2 o2) ?_⟩
    rintro e2 a2 W3 hp
    cases e2 with
    | normal => exact ⟨hp.1.heap hl2 (by omega) (by omega), fun W' o4 hl4 => ⟨sv_chain o1 o2 hp.1 o4, .inl ⟨rfl, hq _ _ _ _ hp.2 o4 (.inl (by omega)), svd_chain o1 o2 hp.1 o4 hd, hl4⟩⟩⟩
    | ret => exact ⟨hp.1.heap hl2 (by omega) (by omega), fun W' o4 hl4 => ⟨sv_chain o1 o2 hp.1 o4, .inr ⟨rfl, _, hqX _ _ _ _ _ hp.2 o4 (by omega), svd_chain o1 o2 hp.1 o4 hd, hl4⟩⟩⟩
    | exit id => exact ⟨hp.1.heap hl2 (by omega) (by omega), fun W' o4 hl4 => ⟨sv_chain o1 o2 hp.1 o4, .inr ⟨rfl, _, hqX _ _ _ _ _ hp.2 o4 (by omega), svd_chain o1 o2 hp.1 o4 hd, hl4⟩⟩⟩
    | goto t => exact ⟨hp.1.heap hl2 (by omega) (by omega), fun W' o4 hl4 => ⟨sv_chain o1 o2 hp.1 o4, .inr ⟨rfl, _, hqX _ _ _ _ _ hp.2 o4 (by omega), svd_chain o1 o2 hp.1 o4 hd, hl4⟩⟩⟩
    | panic ch => exact hp.elim
    | outgrown => exact hp.elim
  | ret => exact he.elim
  | exit id => exact he.elim
  | goto t => exact he.elim
  | panic ch => exact he.elim
  | outgrown => exact he.elim
/-- for b := range s.All(), or over what All has told -/
theorem overAllW {lo hi n cap g : Nat} {s : Nat → Nat} {op : Operand} {ps : Array Tmp} {assign body : Code} {Q : Exit → Act → World → Prop} {a : Act} {w : World}
    (hg : a.eval op = .func (.func 49) #[] #[.pointer (some ⟨g, 0, none⟩)]) (hps : ps.size = 1)
    (J : Nat → World → Prop) (K : World → Prop) (Kx : Code → World → Prop)
    (hm : ∀ p W, J p W → p ≤ 64 * n ∧ ∃ r, RawAt W lo hi s n cap r ∧ Told r ∧ Box W g 30 (.pointer (some ⟨s 14, 0, none⟩)))
    (hq : ∀ p W W' x y, J p W → Out x y W W' → ((w.heap.size ≤ x ∧ y ≤ w.heap.size + 6) ∨ y = 0) → J p W')
    (hqK : ∀ W W' x y, K W → Out x y W W' → w.heap.size ≤ x ∧ y ≤ w.heap.size + 6 → K W')
    (hqX : ∀ c W W' x y, Kx c W → Out x y W W' → w.heap.size ≤ x ∧ y ≤ w.heap.size + 6 → Kx c W')
    (hy : ∀ p W r (k : Nat) b, J p W → RawAt W lo hi s n cap r → nxr r.P (64 * n) p = k → r.M (k : Int) = some b → w.heap.size + 6 ≤ W.heap.size →
      assign.wpIn (Fence.wide.inRound (w.heap.size + 1)) 0 Tryd.prog (Exit.then (fun a1 Wa => Sv w.heap.size 6 W Wa ∧ ∀ W2, Out (w.heap.size + 1) (w.heap.size + 2) Wa W2 → body.wpIn (Fence.wide.inRound (w.heap.size + 1)) 0 Tryd.prog (rPw w.heap.size W2 (J (k + 1)) Kx) a1 W2) (fun _ _ _ => False))
        { tmps := (ps.zip #[blkV k b]).foldl (fun t (p, v) => t.setIfInBounds p v) a.tmps, defers := [] } W)
    (he : ∀ p W r, J p W → RawAt W lo hi s n cap r → nxr r.P (64 * n) p = -1 → K W) (h0 : J 0 w)
    (hdone : ∀ W, K W → W.heap[w.heap.size]? = some (.deferred (some [])) → Q .normal { a with defers := { target := .collected w.heap.size, args := #[] } :: a.defers } W)
    (hstop : ∀ c W, Kx c W → W.heap[w.heap.size]? = some (.deferred (some [])) → c.wpIn Fence.wide 0 Tryd.prog Q { a with defers := { target := .collected w.heap.size, args := #[] } :: a.defers } W) :
    (Code.rangeFunc op ps assign body).wpIn Fence.wide 0 Tryd.prog Q a w := by
  refine range_any hg (enters_of Tryd.func49 (by kernel_rfl) rfl) K Kx ?H (fun W W' hK ho hd => hdone W' (hqK _ _ _ _ hK ho (by omega)) hd) (fun c W W' hK ho hd => hstop c W' (hqX _ _ _ _ _ hK ho (by omega)) hd)
  intro rec hrec W1 hW1
  have ho : Out 0 0 w W1 := by rw [hW1]; exact ((Out.refl 0 0 w).alloc _).alloc _
  have hs : W1.heap.size = w.heap.size + 2 := by rw [hW1]; simp
  have hd : W1.heap[w.heap.size]? = some (.deferred (some [])) := by rw [hW1]; exact two_first
  have hl : W1.heap[w.heap.size + 1]? = some (.loop (rec .ready none)) := by rw [hW1]; exact heap_alloc2_new _ _ _
  clear hW1
  refine (sAll_yieldS (lo := lo) (hi := hi) (n := n) (cap := cap) (s := s) (g := g) (l := w.heap.size + 1)
    (fun p W => J p W ∧ W.heap[w.heap.size]? = some (.deferred (some [])) ∧ W.heap[w.heap.size + 1]? = some (.loop (rec .ready none)))
    (fun W => K W ∧ W.heap[w.heap.size]? = some (.deferred (some [])) ∧ W.heap[w.heap.size + 1]? = some (.loop (rec .ready none)))
    (fun W => ∃ c, Kx c W ∧ W.heap[w.heap.size]? = some (.deferred (some [])) ∧ W.heap[w.heap.size + 1]? = some (.loop (rec .done (some c)))) (w := W1) ?m ?q ?qj ?qx ?y ?e ?z).mono ?_
  case m => exact fun p W h => hm p W h.1
  case q => exact fun p W W' x y h o hx => ⟨hq p W W' x y h.1 o (by omega), o.heap h.2.1 (by omega), o.heap h.2.2 (by omega)⟩
  case qj => exact fun W W' x y h o hx => ⟨hqK W W' x y h.1 o (by omega), o.heap h.2.1 (by omega), o.heap h.2.2 (by omega)⟩
  case qx => rintro W W' x y ⟨c, h1, h2, h3⟩ o hx; exact ⟨c, hqX c W W' x y h1 o (by omega), o.heap h2 (by omega), o.heap h3 (by omega)⟩
  case y =>
    rintro p W r k b ⟨hj, hd1, hl1⟩ hr hk hb hz
    rw [hs] at hz ⊢
    exact round_ofW hrec hd1 hl1 (by simp [hps]) (hq (k + 1)) hqX (hy p W r k b hj hr hk hb (by omega))
  case e => exact fun p W r h hr hk => ⟨he p W r h.1 hr hk, h.2⟩
  case z => exact ⟨hq 0 w W1 0 0 h0 ho (.inr rfl), hd, hl⟩
  rintro e W ⟨hv, ⟨h1, h2, h3⟩ | ⟨c, h1, h2, h3⟩⟩
  · exact ⟨hv, h2, .inl ⟨h1, h3⟩⟩
  · exact ⟨hv, h2, .inr ⟨c, h1, h3⟩⟩
end Go.Proofs.YtjbbkeoolodeaabDoor
namespace Go.Proofs.YtjbbkeoolodeaabDoor
open Go.RowKit
attribute [local go_sem] Oper.semAt_some
set_option linter.unusedVariables false
set_option linter.unusedSimpArgs false

/-- the objects below p, by rising places -/
def objsTo (r : Raw) : Nat → List (Nat × Blk)
  | 0 => []
  | p + 1 => if r.P p then (match r.M (p : Int) with | some b => objsTo r p ++ [(p, b)] | none => objsTo r p) else objsTo r p
theorem objs_skip {r : Raw} {p : Nat} : ∀ {d : Nat}, (∀ j, p ≤ j → j < p + d → r.P j = false) → objsTo r (p + d) = objsTo r p
  | 0, _ => rfl
  | d + 1, h => by
    refine Eq.trans ?_ (objs_skip (r := r) (p := p) (d := d) (fun j a b => h j a (by omega)))
    show objsTo r ((p + d) + 1) = _
    conv => lhs; unfold objsTo
    rw [h _ (by omega) (by omega)]; rfl
theorem objs_to {r : Raw} {p k : Nat} (hp : p ≤ k) (h : ∀ j, p ≤ j → j < k → r.P j = false) : objsTo r k = objsTo r p := by
  obtain ⟨d, rfl⟩ : ∃ d, k = p + d := ⟨k - p, by omega⟩
  exact objs_skip h
theorem objs_step {r : Raw} {k : Nat} {b : Blk} (hP : r.P k = true) (hb : r.M (k : Int) = some b) : objsTo r (k + 1) = objsTo r k ++ [(k, b)] := by
  conv => lhs; unfold objsTo
  rw [hP, hb]; rfl
theorem objs_len (r : Raw) : ∀ p, (objsTo r p).length ≤ p
  | 0 => Nat.le_refl _
  | p + 1 => by
    have ih := objs_len r p
    unfold objsTo
    split
    · split
      · simp; omega
      · omega
    · omega
def bks (l : List (Nat × Blk)) : List Value := l.flatMap fun q => [.int .i64 (q.1 : Int), .int .i64 q.2.1, .int .i64 q.2.2.1, .int .i64 q.2.2.2.1, .int .i64 q.2.2.2.2]
theorem bks_cons (p : Nat × Blk) (l : List (Nat × Blk)) : bks (p :: l) = .int .i64 (p.1 : Int) :: .int .i64 p.2.1 :: .int .i64 p.2.2.1 :: .int .i64 p.2.2.2.1 :: .int .i64 p.2.2.2.2 :: bks l := rfl
theorem bks_append (a b : List (Nat × Blk)) : bks (a ++ b) = bks a ++ bks b := by unfold bks; rw [List.flatMap_append]
theorem bks_len (l : List (Nat × Blk)) : (bks l).length = l.length * 5 := by
  induction l with
  | nil => rfl
  | cons p l ih => rw [bks_cons]; simp [ih]; omega
def BListIs (w : World) (base : Nat) (v : Value) (l : List (Nat × Blk)) : Prop := w.ownsRow base 36 5 v l.length (bks l)
theorem own_same {w w' : World} {base : Nat} {T : TypeId} {size n : Nat} {v : Value} {xs : List Value} (h : w.ownsRow base T size v n xs) (hb : ∀ g o, v.ownBlock = some g → base ≤ g → w.heap[g]? = some o → w'.heap[g]? = some o) : w'.ownsRow base T size v n xs := by
  obtain ⟨h1, h2⟩ := h
  refine ⟨h1, ?_⟩
  rcases h2 with h2 | ⟨g, cap, cur, rfl, h3, h4, h5⟩
  · exact .inl h2
  · exact .inr ⟨g, cap, cur, rfl, h3, hb g _ rfl h3 h4, h5⟩
theorem ownk {w w' : World} {base x y : Nat} {T : TypeId} {size n : Nat} {v : Value} {xs : List Value} (h : w.ownsRow base T size v n xs) (o : Out x y w w') (hy : y ≤ base) : w'.ownsRow base T size v n xs :=
  own_same h fun g ob _ hg hh => o.heap hh (.inr (by omega))
theorem ownw {w : World} {base base' : Nat} {T : TypeId} {size n : Nat} {v : Value} {xs : List Value} (h : w.ownsRow base T size v n xs) (hb : base' ≤ base) : w.ownsRow base' T size v n xs := by
  obtain ⟨h1, h2⟩ := h
  refine ⟨h1, ?_⟩
  rcases h2 with h2 | ⟨g, cap, cur, rfl, h3, h4⟩
  · exact .inl h2
  · exact .inr ⟨g, cap, cur, rfl, by omega, h4⟩
theorem own_block {w : World} {base : Nat} {T : TypeId} {size n : Nat} {v : Value} {xs : List Value} (h : w.ownsRow base T size v n xs) : ∀ g, v.ownBlock = some g → base ≤ g ∧ g < w.heap.size := by
  intro g hg
  rcases h.2 with ⟨rfl, _⟩ | ⟨g', cap, cur, rfl, h3, h4, _⟩
  · cases hg
  · cases hg; exact ⟨h3, heap_lt h4⟩
theorem grown_out {w w' : World} {v : Value} {base : Nat} (h : w.grownBy w' v.ownBlock) (hb : ∀ g, v.ownBlock = some g → base ≤ g) : Out base w.heap.size w w' :=
  ⟨h.os, h.tape, h.output, h.size, fun k h1 h2 => h.block k h1 (fun e => by have := hb k e.symm; omega)⟩
theorem info_blk : (Tryd.prog.info? 36).map (fun i => (i.zero, i.size, i.bytes)) = some (some (.agg #[.int .i64 0, .int .i64 0, .int .i64 0, .int .i64 0, .int .i64 0]), 5, 40) := by kernel_rfl
section
variable {w : World} {lo hi n cap : Nat} {s : Nat → Nat} {r : Raw}
set_option maxRecDepth 100000 in
set_option maxHeartbeats 4000000 in
theorem appendSeq_any (h : RawAt w lo hi s n cap r) (hT : Told r) {g : Nat} (hg : Box w g 30 (.pointer (some ⟨s 14, 0, none⟩))) :
    Calls Tryd.prog 48 #[.slice none 0 0, .func (.func 49) #[] #[.pointer (some ⟨g, 0, none⟩)]] w fun e w' => ∃ v, e = .returned v ∧ BListIs w' w.heap.size v (objsTo r (64 * n)) ∧ Out 0 0 w w' := by
  obtain ⟨i0, hi0, hz0, hz1, hz2⟩ := info_parts info_blk
  have HR0 := hid_mk h
  have HTo := hid_mk hT
  have HTt : Hid (hi ≤ w.heap.size ∧ 4 ≤ w.heap.size ∧ 4 ≤ lo ∧ n ≤ 4096 ∧ 1 ≤ n ∧ g < w.heap.size) := ⟨h.top, h.tab.lt, h.glob, h.n2, h.n1, hg.lt⟩
  have HB0 := hid_mk hg
  clear h hT hg
  refine (callsIn_wide (n := 0)).1 ?_
  refine callsIn_of_wp_marks Tryd.func48 rfl trivial ?_ rfl
  simp only [Tryd.ntmps48, List.size_toArray, List.length_cons, List.length_nil, Nat.reduceAdd, Nat.reduceSub, Array.replicate_succ, Array.replicate_zero, List.push_toArray, List.append_toArray, List.nil_append, List.cons_append]
  gi_wp2_with fail
  obtain ⟨W1, hW1⟩ : ∃ W1, w.alloc (.cells #[.slice none 0 0] 31) = W1 := ⟨_, rfl⟩
  obtain ⟨G, hG⟩ : ∃ G, w.heap.size = G := ⟨_, rfl⟩
  have hs1 : W1.heap.size = G + 1 := by rw [← hW1, ← hG]; simp
  have HO1 : Hid (Out 0 0 w W1) := by rw [← hW1]; exact (Out.refl 0 0 w).alloc _
  have HX1 : Hid (Box W1 G 31 (.slice none 0 0)) := by rw [← hW1, ← hG]; exact heap_alloc_new _ _
  rw [hW1, hG]
  rw [hG] at HTt
  have HGw := hid_mk hG
  clear hW1 hG
  refine overAllW (lo := lo) (hi := hi) (n := n) (cap := cap) (g := g) (s := s) rfl rfl
    (fun p W => p ≤ 64 * n ∧ RawAt W lo hi s n cap r ∧ Box W g 30 (.pointer (some ⟨s 14, 0, none⟩)) ∧ (∃ v, Box W G 31 v ∧ BListIs W (G + 7) v (objsTo r p)) ∧ Out 0 0 w W)
    (fun W => (∃ v, Box W G 31 v ∧ BListIs W (G + 7) v (objsTo r (64 * n))) ∧ Out 0 0 w W)
    (fun c W => False) ?hm1 ?hq1 ?hqk1 ?hqx1 ?hy1 ?he1 ?hz1 ?hdone1 ?hstop1
  case hm1 =>
    rintro p W ⟨hp, a1, a2, a3, a4⟩
    exact ⟨hp, _, a1, HTo.out, a2⟩
  case hq1 =>
    rintro p W W' x y ⟨hp, a1, a2, ⟨v, a3, a4⟩, a5⟩ o hx
    have hT := HTt.out
    have hgw := HGw.out
    exact ⟨hp, a1.kept o (by omega) (by omega), a2.kept o (by omega), ⟨v, a3.kept o (by omega), ownk a4 o (by omega)⟩, out_far a5 o (by omega)⟩
  case hqk1 =>
    rintro W W' x y ⟨⟨v, a3, a4⟩, a5⟩ o hx
    have hT := HTt.out
    have hgw := HGw.out
    exact ⟨⟨v, a3.kept o (by omega), ownk a4 o (by omega)⟩, out_far a5 o (by omega)⟩
  case hqx1 => exact fun c W W' x y h _ _ => h
  case hstop1 => exact fun c W h _ => h.elim
  case hz1 => exact ⟨Nat.zero_le _, HR0.out.quiet HO1.out, HB0.out.kept HO1.out (.inr (Nat.zero_le _)), ⟨_, HX1.out, ⟨rfl, .inl ⟨rfl, rfl⟩⟩⟩, HO1.out⟩
  case he1 =>
    rintro p W rr ⟨hp, a1, a2, ⟨v, a3, a4⟩, a5⟩ hr hk
    obtain ⟨eP, eM⟩ := raw_one a1 hr
    rw [← eP] at hk
    rcases nxr_cases r.P (64 * n) p with ⟨_, hz⟩ | ⟨i, hi', _⟩
    · rw [objs_to hp hz]
      exact ⟨⟨v, a3, a4⟩, a5⟩
    · have : (-1 : Int) = i := hk.symm.trans hi'
      omega
  case hdone1 =>
    rintro W ⟨⟨v, a3, a4⟩, a5⟩ hd
    have c0 := a3.cell
    have HD := hid_mk hd
    have HA := hid_mk (And.intro a4 a5)
    clear a3 a4 a5 hd
    gi_wp2
    refine ⟨by simp, .inl ⟨_, _, rfl, run_takeDeferred HD.out, ?_⟩⟩
    have hgw := HGw.out
    have o := out_putObj W W1.heap.size (Obj.deferred none)
    have hl : BListIs (W.putObj W1.heap.size (Obj.deferred none)) w.heap.size v (objsTo r (64 * n)) := ownw (ownk (show W.ownsRow (G + 7) 36 5 v _ _ from HA.out.1) o (by omega)) (by omega)
    refine ⟨_, results_tmp rfl _ _ _, _, rfl, ?_⟩
    exact ⟨hl, out_far HA.out.2 o (.inl (by omega))⟩
  case hy1 =>
    rintro p W rr k b ⟨hp, a1, a2, ⟨v, a3, a4⟩, a5⟩ hr hk hb hsz
    obtain ⟨eP, eM⟩ := raw_one a1 hr
    rw [← eP] at hk
    rw [← eM] at hb
    obtain ⟨hpk, hkn, hPk, hz⟩ : p ≤ k ∧ k < 64 * n ∧ r.P k = true ∧ ∀ j, p ≤ j → j < k → r.P j = false := by
      rcases nxr_cases r.P (64 * n) p with ⟨e1, _⟩ | ⟨i, e1, e2, e3, e4, e5⟩
      · have : (-1 : Int) = k := e1.symm.trans hk
        omega
      · have : i = k := by have : (i : Int) = k := e1.symm.trans hk; omega
        subst this
        exact ⟨e3 hp, e2, e4, e5⟩
    rw [hs1] at hsz ⊢
    have hst := objs_step hPk hb
    rw [objs_to hpk hz] at hst
    obtain ⟨b1, b2, b3, b4⟩ := b
    have hlen := objs_len r p
    have A := hid_mk (And.intro a1 (And.intro a2 (And.intro a3 (And.intro a4 (And.intro a5 hst)))))
    have HK := hid_mk (And.intro hpk (And.intro hkn (And.intro hsz (And.intro hlen hp))))
    clear a1 a2 a3 a4 a5 hr hk hb eP eM hz hPk hp hpk hkn hsz hst hlen
    unfold blkV
    dsimp only at A ⊢
    obtain ⟨WA, hWA⟩ : ∃ WA, W.alloc (bo (k : Int) b1 b2 b3 b4) = WA := ⟨_, rfl⟩
    have HBA : Hid (WA.heap[W.heap.size]? = some (bo (k : Int) b1 b2 b3 b4)) := by rw [← hWA]; exact heap_alloc_new _ _
    have HOA : Hid (Out 0 0 W WA) := by rw [← hWA]; exact (Out.refl 0 0 W).alloc _
    have HSA : Hid (WA.heap.size = W.heap.size + 1) := by rw [← hWA]; exact World.size_alloc _ _
    obtain ⟨H, hH⟩ : ∃ H, W.heap.size = H := ⟨_, rfl⟩
    rw [hH] at HK HBA HSA
    unfold bo at hWA HBA
    gi_wp2
    (try rw [hWA])
    refine ⟨(HOA.out.any 0 _).sv, ?_⟩
    (try rw [hH])
    clear hWA hH
    intro W2 o2
    have hT := HTt.out
    have hkk := HK.out
    have hgw := HGw.out
    have HR2 := hid_mk ((A.out.1.quiet HOA.out).kept o2 (.inl (by omega)) (.inl (by omega)))
    have HG2 := hid_mk ((A.out.2.1.kept HOA.out (.inr (Nat.zero_le _))).kept o2 (.inl (by omega)))
    have HX2 := hid_mk ((A.out.2.2.1.kept HOA.out (.inr (Nat.zero_le _))).kept o2 (.inl (by omega)))
    have HL2 : Hid (W2.ownsRow (G + 7) 36 5 v (objsTo r p).length (bks (objsTo r p))) := ownk (ownk A.out.2.2.2.1 HOA.out (Nat.zero_le _)) o2 (by omega)
    have HB2 := hid_mk (o2.heap HBA.out (.inr (by omega)))
    have HO2 := hid_mk (out_far (A.out.2.2.2.2.1.trans HOA.out) o2 (.inl (by omega)))
    have c0 := HX2.out.cell
    have HS2 : Hid (H + 1 ≤ W2.heap.size) := by have := o2.size; have := HSA.out; show H + 1 ≤ _; omega
    have HA6 := hid_mk A.out.2.2.2.2.2
    obtain ⟨q0, q1, q2, q3, q4⟩ := bo_facts HB2.out
    obtain ⟨m, hm⟩ : ∃ m, (objsTo r p).length = m := ⟨_, rfl⟩
    obtain ⟨xs, hxs⟩ : ∃ xs, bks (objsTo r p) = xs := ⟨_, rfl⟩
    rw [hm, hxs] at HL2
    have HMm : Hid (m ≤ 64 * n ∧ n ≤ 4096) := by show _ ∧ _; omega
    have HL3 : Hid ((W2.alloc (.cells #[.int .i64 (k : Int), .int .i64 b1, .int .i64 b2, .int .i64 b3, .int .i64 b4] 36)).ownsRow (G + 7) 36 5 v m xs) := ownk HL2.out ((Out.refl 0 0 W2).alloc _) (Nat.zero_le _)
    have HN3 : Hid (∀ j u, ([.int .i64 (k : Int), .int .i64 b1, .int .i64 b2, .int .i64 b3, .int .i64 b4] : List Value)[j]? = some u → (W2.alloc (.cells #[.int .i64 (k : Int), .int .i64 b1, .int .i64 b2, .int .i64 b3, .int .i64 b4] 36)).cell? ((⟨W2.heap.size, 0, none⟩ : Addr).add j) = some u) := by
      intro j u hj
      have hh := heap_alloc_new W2 (.cells #[.int .i64 (k : Int), .int .i64 b1, .int .i64 b2, .int .i64 b3, .int .i64 b4] 36)
      have hj5 : j < 5 := by have := (List.getElem?_eq_some_iff.1 hj).1; simpa using this
      have : j = 0 ∨ j = 1 ∨ j = 2 ∨ j = 3 ∨ j = 4 := by omega
      rw [Addr.add_lit, Nat.zero_add]
      obtain ⟨f0, f1, f2, f3, f4⟩ := bo_facts (a := (k : Int)) (k := b1) (z := b2) (x := b3) (t := b4) hh
      rcases this with rfl | rfl | rfl | rfl | rfl <;> (simp at hj; subst hj; assumption)
    have HG3 : Hid (G + 7 ≤ (W2.alloc (.cells #[.int .i64 (k : Int), .int .i64 b1, .int .i64 b2, .int .i64 b3, .int .i64 b4] 36)).heap.size) := by
      show G + 7 ≤ _
      have := HS2.out; rw [World.size_alloc]; omega
    have HV := hid_mk (own_block HL2.out)
    have HMX := hid_mk (And.intro hm hxs)
    clear hm hxs
    gi_wp2_with (gi_at_builtin; refine wpListIn_append_own _ rfl _ _ 31 rfl (G + 7) 36 i0 (.agg #[.int .i64 0, .int .i64 0, .int .i64 0, .int .i64 0, .int .i64 0]) 5 40 Tryd.underlying31 hi0 hz0 hz1 hz2 rfl (by decide) v m xs rfl HL3.out ⟨W2.heap.size, 0, none⟩ 1 1 [.int .i64 (k : Int), .int .i64 b1, .int .i64 b2, .int .i64 b3, .int .i64 b4] rfl rfl HN3.out (by intro u hu; simp at hu; rcases hu with rfl | rfl | rfl | rfl | rfl <;> rfl) (by unfold maxLen; have := HMm.out; omega) (by have := HMm.out; omega) HG3.out ?_; intro v' w1 hown' hgrow hnil; obtain ⟨g4, cap4, rfl, hg4, _⟩ := hown'.form (by omega); have HP4 := hid_mk hown'; have HO4 := hid_mk (grown_out (base := G + 7) hgrow (fun g h => (HV.out g h).1)); have HX4 := hid_mk ((HX2.out.kept ((Out.refl 0 0 W2).alloc (.cells #[.int .i64 (k : Int), .int .i64 b1, .int .i64 b2, .int .i64 b3, .int .i64 b4] 36)) (.inr (Nat.zero_le _))).kept HO4.out (.inl (by omega))); have c4 := HX4.out.cell; have c5 : w1.frozen? ⟨G, 0, none⟩ = false := HX4.out.frozen; clear hown' hgrow hnil hg4)
    have o3 : Out 0 0 W2 (W2.alloc (.cells #[.int .i64 (k : Int), .int .i64 b1, .int .i64 b2, .int .i64 b3, .int .i64 b4] 36)) := (Out.refl 0 0 W2).alloc _
    have o5 : Out G (G + 1) w1 (w1.setCell ⟨G, 0, none⟩ (.slice (some ⟨g4, 0, none⟩) (m + 1) cap4)) := (Out.refl _ _ _).setCell (.inl ⟨Nat.le_refl _, Nat.lt_succ_self _⟩) _
    have hB := HS2.out
    refine ⟨fun x ob h1 h2 hx => o5.heap (HO4.out.heap (o3.heap hx (.inr (Nat.zero_le _))) (.inl (by omega))) (.inr (by omega)), by omega, ?_, ?_, ⟨_, HX4.out.set _, ?_⟩, ?_⟩
    · exact ((HR2.out.quiet o3).kept HO4.out (.inl (by omega)) (.inl (by omega))).kept o5 (.inl (by omega)) (.inl (by omega))
    · exact ((HG2.out.kept o3 (.inr (Nat.zero_le _))).kept HO4.out (.inl (by omega))).kept o5 (.inl (by omega))
    · have := ownk HP4.out o5 (by omega)
      unfold BListIs
      rw [HA6.out, bks_append, List.length_append, HMX.out.1, HMX.out.2]
      exact this
    · exact out_far (out_far (HO2.out.trans o3) HO4.out (.inl (by omega))) o5 (.inl (by omega))
set_option maxHeartbeats 1000000 in
theorem collect_any (h : RawAt w lo hi s n cap r) (hT : Told r) {g : Nat} (hg : Box w g 30 (.pointer (some ⟨s 14, 0, none⟩))) :
    Calls Tryd.prog 30 #[.func (.func 49) #[] #[.pointer (some ⟨g, 0, none⟩)]] w fun e w' => ∃ v, e = .returned v ∧ BListIs w' w.heap.size v (objsTo r (64 * n)) ∧ Out 0 0 w w' := by
  have HA := hid_mk (appendSeq_any h hT hg)
  clear h hT hg
  go_enter Tryd.func30, Tryd.ntmps30
  go_wp2_with (go_at_call 48; refine HA.out.mono ?_; rintro e w1 ⟨v, rfl, hl, ho⟩)
  go_ret
  exact ⟨v, rfl, hl, ho⟩
set_option maxHeartbeats 1000000 in
theorem spBlocks_any (h : RawAt w lo hi s n cap r) (hT : Told r) :
    Calls Tryd.prog 12 #[.pointer (some ⟨s 14, 0, none⟩)] w fun e w' => ∃ v, e = .returned v ∧ BListIs w' w.heap.size v (objsTo r (64 * n)) ∧ Out 0 0 w w' := by
  have ho0 : Out 0 0 w (w.alloc (.cells #[.pointer (some ⟨s 14, 0, none⟩)] 30)) := (Out.refl 0 0 w).alloc _
  have HC := hid_mk (collect_any (h.quiet ho0) hT (heap_alloc_new w (.cells #[.pointer (some ⟨s 14, 0, none⟩)] 30)))
  have HL := hid_mk (spAll_any (s 14) w)
  have HO0 := hid_mk ho0
  clear h hT ho0
  go_enter Tryd.func12, Tryd.ntmps12
  go_wp2_with (first | (go_at_call 31; refine HL.out.mono ?_; rintro e w1 ⟨rfl, rfl⟩) | (go_at_call 30; refine HC.out.mono ?_; rintro e w1 ⟨v, rfl, hl, ho⟩))
  go_ret
  exact ⟨v, rfl, ownw hl (by simp), HO0.out.trans ho⟩
end
end Go.Proofs.YtjbbkeoolodeaabDoor
