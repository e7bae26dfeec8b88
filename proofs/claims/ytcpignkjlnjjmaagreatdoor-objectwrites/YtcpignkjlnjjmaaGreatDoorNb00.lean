import Derived.Test.YtcpignkjlnjjmaaGreatDoorNa19
import Derived.Test.YtcpignkjlnjjmaaGreatDoorNa12
namespace Go.Proofs.YtcpignkjlnjjmaaGreatDoor
open Go.RowKit
attribute [local go_sem] Oper.semAt_some
set_option linter.unusedVariables false
set_option linter.unusedSimpArgs false

/-- a map holds one set -/
theorem MapAt.one {w : World} {lo hi b n lo' hi' : Nat} {S S' : Nat → Bool} (h : MapAt w lo hi b n S) (h' : MapAt w lo' hi' b n S') : S = S' := by
  obtain ⟨bw, cap, hb, h1, h2, h3, h4, h5, h6, h7, h8, l1, l2, l3, hr⟩ := h
  obtain ⟨bw', cap', hb', k1, k2, k3, k4, k5, k6, k7, k8, m1, m2, m3, hr'⟩ := h'
  rw [hb] at hb'
  have e : bw = bw' := by simp at hb'; exact hb'.1
  subst e
  funext j
  by_cases hj : j < n
  · have a := hr.cell (nw_lt hj)
    have b := hr'.cell (nw_lt hj)
    rw [a] at b
    simp at b
    have e1 := pk_bit S (j / 64) (j % 64)
    have e2 := pk_bit S' (j / 64) (j % 64)
    rw [show pk S (j / 64) = pk S' (j / 64) from by omega, e2, show 64 * (j / 64) + j % 64 = j from by omega, show decide (j % 64 < 64) = true from by simp; omega] at e1
    simpa using e1.symm
  · rw [h7 j (by omega), k7 j (by omega)]
theorem spAll_any (b : Nat) (w : World) :
    Calls Tryz.prog 68 #[.pointer (some ⟨b, 0, none⟩)] w fun e w' => e = .returned (.func (.func 84) #[] #[.pointer (some ⟨w.heap.size, 0, none⟩)]) ∧ w' = w.alloc (.cells #[.pointer (some ⟨b, 0, none⟩)] 49) := by
  go_enter Tryz.func68, Tryz.ntmps68
  go_wp2
  go_ret
  exact ⟨rfl, rfl⟩
theorem yield_said {e : Ending} {p a b : Prop} (h : p ∧ ((e = .returned (.bool true) ∧ a) ∨ (e = .returned (.bool false) ∧ b))) : ∃ bb : Bool, e = .returned (.bool bb) ∧ p ∧ (bb = true → a) ∧ (bb = false → b) := by
  rcases h with ⟨hp, ⟨he, ha⟩ | ⟨he, hb⟩⟩
  · exact ⟨true, he, hp, fun _ => ha, (fun e => by cases e)⟩
  · exact ⟨false, he, hp, (fun e => by cases e), fun _ => hb⟩
/-- where an object stands it is told -/
def Told (r : Raw) : Prop := ∀ a : Nat, r.P a = true → ∃ b, r.M (a : Int) = some b
/-- the m blocks from B on are as they were -/
def Sv (B m : Nat) (w w' : World) : Prop := ∀ k o, B ≤ k → k < B + m → w.heap[k]? = some o → w'.heap[k]? = some o
theorem Sv.heap {B m k : Nat} {w w' : World} {o : Obj} (h : Sv B m w w') (hk : w.heap[k]? = some o) (h1 : B ≤ k) (h2 : k < B + m) : w'.heap[k]? = some o := h k o h1 h2 hk
theorem Out.sv {B m : Nat} {w w' : World} (h : Out 0 B w w') : Sv B m w w' := fun _ _ h1 _ hk => h.heap hk (.inr h1)
set_option maxRecDepth 100000 in
set_option maxHeartbeats 4000000 in
theorem sAll_yieldW {lo hi n cap g l : Nat} {s : Nat → Nat} (I : Nat → World → Prop) (J Jx : World → Prop) {w : World}
    (hm : ∀ p w, I p w → p ≤ 64 * n ∧ ∃ r, RawAt w lo hi s n cap r ∧ Told r ∧ Box w g 49 (.pointer (some ⟨s 14, 0, none⟩)))
    (hq : ∀ p w1 w2 x y, I p w1 → Out x y w1 w2 → ((w.heap.size ≤ x ∧ y ≤ w.heap.size + 4) ∨ y = 0) → I p w2)
    (hqJ : ∀ w1 w2 x y, J w1 → Out x y w1 w2 → w.heap.size ≤ x ∧ y ≤ w.heap.size + 4 → J w2) (hqX : ∀ w1 w2 x y, Jx w1 → Out x y w1 w2 → w.heap.size ≤ x ∧ y ≤ w.heap.size + 4 → Jx w2)
    (hy : ∀ p w1 r (k : Nat) b, I p w1 → RawAt w1 lo hi s n cap r → nxr r.P (64 * n) p = k → r.M (k : Int) = some b → YieldAt Fence.wide 0 Tryz.prog l #[blkV k b] w1 fun e w' => Sv w.heap.size 4 w1 w' ∧ ((e = .returned (.bool true) ∧ I (k + 1) w') ∨ (e = .returned (.bool false) ∧ Jx w')))
    (he : ∀ p w1 r, I p w1 → RawAt w1 lo hi s n cap r → nxr r.P (64 * n) p = -1 → J w1) (h0 : I 0 w) :
    Calls Tryz.prog 84 #[.func (.yield l) #[] #[], .pointer (some ⟨g, 0, none⟩)] w fun e w' => (∃ v, e = .returned v) ∧ (J w' ∨ Jx w') := by
  obtain ⟨_, r0, hr0, _, hb0⟩ := hm 0 w h0
  have hW0 : Out 0 0 w (w.alloc (.cells #[.func (.yield l) #[] #[]] 134)) := (Out.refl 0 0 w).alloc _
  have hr1 := hr0.quiet hW0
  have c0 := (hb0.kept hW0 (.inr (Nat.zero_le _))).cell
  obtain ⟨d0, d1, d2, d3, d4, d5⟩ := hr1.cells
  have HM := hid_mk hm
  have HQ := hid_mk hq
  have HQJ := hid_mk hqJ
  have HQX := hid_mk hqX
  have HY := hid_mk hy
  have HE := hid_mk he
  have HI := hid_mk h0
  have HG : Hid (g < w.heap.size) := hb0.lt
  have HT : Hid (hi ≤ w.heap.size ∧ 4 ≤ w.heap.size) := ⟨hr0.top, hr0.tab.lt⟩
  clear hm hq hy he h0 hb0 hr0 hr1 hqJ hqX hW0
  refine (callsIn_wide (n := 0)).1 ?_
  refine callsIn_of_wp_marks Tryz.func84 rfl trivial ?_ rfl
  simp only [Tryz.ntmps84, List.size_toArray, List.length_cons, List.length_nil, Nat.reduceAdd, Nat.reduceSub, Array.replicate_succ, Array.replicate_zero, List.push_toArray, List.append_toArray, List.nil_append, List.cons_append]
  gi_wp2_with (first
    | (refine ⟨trivial, rfl, ?_⟩; gi_at_call 42; refine (callsIn_wide.2 (self_any _ _)).mono ?_; rintro e w1 ⟨rfl, rfl⟩)
    | (refine ⟨trivial, rfl, ?_⟩; gi_at_call 85; refine (callsIn_wide.2 (ball_any _ _)).mono ?_; rintro e w1 ⟨rfl, rfl⟩))
  obtain ⟨W1, hW1⟩ : ∃ W1, (w.alloc (.cells #[.func (.yield l) #[] #[]] 134)).alloc (.cells #[.pointer (some ⟨s 8 + 1, 0, none⟩)] 82) = W1 := ⟨_, rfl⟩
  have hs1 : W1.heap.size = w.heap.size + 2 := by rw [← hW1]; simp
  have ho1 : Out 0 0 w W1 := by rw [← hW1]; exact ((Out.refl 0 0 w).alloc _).alloc _
  have hy1 : Box W1 w.heap.size 134 (.func (.yield l) #[] #[]) := by rw [← hW1]; exact two_first
  have hx1 : Box W1 (w.heap.size + 1) 82 (.pointer (some ⟨s 8 + 1, 0, none⟩)) := by rw [← hW1]; exact heap_alloc2_new _ _ _
  rw [hW1]
  clear c0 d0 d1 d2 d3 d4 d5 hW1
  have HO1 := hid_mk ho1
  have HY1 := hid_mk hy1
  have HX1 := hid_mk hx1
  have HS1 := hid_mk hs1
  clear ho1 hy1 hx1
  refine range_any (gf := 97) (lb := #[.pointer (some ⟨w.heap.size + 1, 0, none⟩)]) rfl (enters_of Tryz.func97 (by kernel_rfl) rfl) J (fun c W => c = .ret ∧ Jx W) ?H ?done ?stop
  case H =>
    intro rec hrec W2 hW2
    rw [hs1]
    have HR := hid_mk hrec
    have ho2 : Out 0 0 W1 W2 := by rw [hW2]; exact ((Out.refl 0 0 W1).alloc _).alloc _
    have hd2 : W2.heap[w.heap.size + 2]? = some (.deferred (some [])) := by rw [hW2, ← hs1]; exact two_first
    have hl2 : W2.heap[w.heap.size + 2 + 1]? = some (.loop (rec .ready none)) := by rw [hW2, ← hs1]; exact heap_alloc2_new _ _ _
    refine (bAll_yield (lo := s 8) (hi := s 8 + 2) (b := s 8 + 1) (n := 64 * n) (g := w.heap.size + 1) (l := w.heap.size + 2 + 1)
      (fun p W => I p W ∧ Box W w.heap.size 134 (.func (.yield l) #[] #[]) ∧ Box W (w.heap.size + 1) 82 (.pointer (some ⟨s 8 + 1, 0, none⟩)) ∧ W.heap[w.heap.size + 2]? = some (.deferred (some [])) ∧ W.heap[w.heap.size + 2 + 1]? = some (.loop (rec .ready none)))
      (fun W => J W ∧ W.heap[w.heap.size + 2]? = some (.deferred (some [])) ∧ W.heap[w.heap.size + 2 + 1]? = some (.loop (rec .ready none)))
      (fun W => Jx W ∧ W.heap[w.heap.size + 2]? = some (.deferred (some [])) ∧ W.heap[w.heap.size + 2 + 1]? = some (.loop (rec .done (some .ret)))) ?hm1 ?hq1 ?hy1 ?he1 (w := W2) ?hz1).mono ?_
    case hm1 =>
      rintro p W ⟨a1, a2, a3, a4, a5⟩
      obtain ⟨b1, r, b2, b3, b4⟩ := HM.out p W a1
      exact ⟨b1, r.P, b2.places, a3⟩
    case hq1 =>
      rintro p W W' ⟨a1, a2, a3, a4, a5⟩ o
      exact ⟨HQ.out p W W' 0 0 a1 o (.inr rfl), a2.kept o (.inr (Nat.zero_le _)), a3.kept o (.inr (Nat.zero_le _)), o.heap a4 (.inr (Nat.zero_le _)), o.heap a5 (.inr (Nat.zero_le _))⟩
    case hz1 => exact ⟨HQ.out 0 W1 W2 0 0 (HQ.out 0 w W1 0 0 HI.out HO1.out (.inr rfl)) ho2 (.inr rfl), HY1.out.kept ho2 (.inr (Nat.zero_le _)), HX1.out.kept ho2 (.inr (Nat.zero_le _)), hd2, hl2⟩
    case he1 =>
      rintro p W S ⟨a1, a2, a3, a4, a5⟩ hS hn
      obtain ⟨b1, r, b2, b3, b4⟩ := HM.out p W a1
      rw [hS.one b2.places] at hn
      exact ⟨HE.out p W r a1 b2 hn, a4, a5⟩
    case hy1 =>
      rintro p W S k ⟨a1, a2, a3, a4, a5⟩ hS hn
      obtain ⟨b1, r, b2, b3, b4⟩ := HM.out p W a1
      rw [hS.one b2.places] at hn
      have hk : r.P k = true := by
        rcases nxr_cases r.P (64 * n) p with ⟨e1, _⟩ | ⟨i, e1, _, _, e3, _⟩
        · omega
        · rw [show k = i from by omega]; exact e3
      obtain ⟨⟨kd, sz, se, tg⟩, hb⟩ := b3 k hk
      have HYY := hid_mk (fun W' (o : Out (w.heap.size + 2 + 1) (w.heap.size + 2 + 1 + 1) W W') => HY.out p W' r k _ (HQ.out p W W' _ _ a1 o (.inl (by omega))) (b2.kept o (.inl (by have := HT.out; omega)) (.inl (by have := HT.out; omega))) hn hb)
      have A := hid_mk (And.intro a2 (And.intro a4 b4))
      have AX := hid_mk a3
      have B2 := hid_mk b2
      have HB := hid_mk hb
      have HL5 := hid_mk a5
      have hk0 : (0 : Int) ≤ (k : Int) := by omega
      refine round_any HR.out a5 rfl ?_
      clear a1 a2 a3 a4 a5 b1 b2 b3 b4 hS hn hk hb
      gi_wp2
      refine ⟨HL5.out, ?_⟩
      intro W3 ho3 hl3
      have ho4 : Out (w.heap.size + 2 + 1) (w.heap.size + 2 + 1 + 1) W W3.drew := ho3.drew
      have B3 := B2.out.kept ho4 (.inl (by have := HT.out; omega)) (.inl (by have := HT.out; omega))
      obtain ⟨d0, d1, d2, d3, d4, d5⟩ := B3.cells
      have c0 := (A.out.1.kept ho4 (.inl (by omega))).cell
      have c1 := (A.out.2.2.kept ho4 (.inl (by have := A.out.2.2.lt; have := B2.out.top; have := HT.out; have := HG.out; omega))).cell
      have hlk := B3.look false (k : Int)
      rw [show mapM r.M (k : Int) = some (.agg #[.int .i64 (k : Int), .int .i64 kd, .int .i64 sz, .int .i64 se, .int .i64 tg]) from by unfold mapM; rw [HB.out]; rfl] at hlk
      simp only [Option.getD_some, Bool.false_eq_true, if_false] at hlk
      obtain ⟨fn, tmps, assign, body, hy, hR⟩ := HYY.out W3.drew ho4
      have HRR := hid_mk ((roundIn_wide (m := 0) hR).mono (R' := fun e W4 => ∃ bb : Bool, e = .returned (.bool bb) ∧ Sv w.heap.size 4 W3.drew W4 ∧ (bb = true → I (k + 1) W4) ∧ (bb = false → Jx W4)) (fun e W4 h => yield_said h))
      have hmx : Tryz.prog.follows .mixedOrders = true := by kernel_rfl
      have HO4 := hid_mk ho4
      have HL3 := hid_mk hl3
      unfold blkV at hy
      clear hR ho3 ho4 B3 hl3
      gi_wp2_with fail
      gi_region_with_o (first | (refine ⟨rfl, ?_⟩; refine RoundIn.mono (F := Fence.wide.inRound (w.heap.size + 2 + 1)) HRR.out ?_; rintro e W4 ⟨bb, rfl, ho5, hI4, hx4⟩))
      all_goals
        have HO5 := hid_mk (ho5)
        have HH4 := hid_mk (And.intro hI4 hx4)
        clear ho5 hI4 hx4
        cases bb
        · gi_wp2
          refine ⟨HO5.out.heap HL3.out (by omega) (by omega), ?_⟩
          intro W5 ho6 hl6
          exact .inr ⟨rfl, HQX.out _ _ _ _ (HH4.out.2 (by first | rfl | trivial)) ho6 (by omega), ho6.heap (HO5.out.heap ((HO4.out.heap A.out.2.1 (.inl (by omega)))) (by omega) (by omega)) (.inl (by omega)), hl6⟩
        · gi_wp2
          refine ⟨HO5.out.heap HL3.out (by omega) (by omega), ?_⟩
          intro W5 ho6 hl6
          exact .inl ⟨rfl, HQ.out _ _ _ _ _ (HH4.out.1 (by first | rfl | trivial)) ho6 (.inl (by omega)), (ho6.heap (HO5.out.heap (A.out.1.kept HO4.out (.inl (by omega))) (by omega) (by omega)) (.inl (by omega))), (ho6.heap (HO5.out.heap (AX.out.kept HO4.out (.inl (by omega))) (by omega) (by omega)) (.inl (by omega))), ho6.heap (HO5.out.heap ((HO4.out.heap A.out.2.1 (.inl (by omega)))) (by omega) (by omega)) (.inl (by omega)), hl6⟩
    · rintro e W ⟨hv, ⟨a1, a2, a3⟩ | ⟨a1, a2, a3⟩⟩
      · exact ⟨hv, a2, .inl ⟨a1, a3⟩⟩
      · exact ⟨hv, a2, .inr ⟨.ret, ⟨rfl, a1⟩, a3⟩⟩
  case done =>
    intro W W' hJ ho hd
    have HJ := hid_mk (HQJ.out W W' _ _ hJ ho (by omega))
    have HD := hid_mk hd
    clear hJ ho hd
    gi_wp2
    refine ⟨by simp, .inl ⟨_, _, rfl, run_takeDeferred HD.out, ?_⟩⟩
    exact ⟨_, results_none rfl _ _ _, ⟨_, rfl⟩, .inl (HQJ.out _ _ _ _ HJ.out (out_putObj _ _ _) (by omega))⟩
  case stop =>
    rintro c W W' ⟨rfl, hJ⟩ ho hd
    have HJ := hid_mk (HQX.out W W' _ _ hJ ho (by omega))
    have HD := hid_mk hd
    clear hJ ho hd
    gi_wp2
    refine ⟨by simp, .inl ⟨_, _, rfl, run_takeDeferred HD.out, ?_⟩⟩
    exact ⟨_, results_none rfl _ _ _, ⟨_, rfl⟩, .inr (HQX.out _ _ _ _ HJ.out (out_putObj _ _ _) (by omega))⟩
theorem sAll_yield {lo hi n cap g l : Nat} {s : Nat → Nat} (I : Nat → World → Prop) (J Jx : World → Prop) {w : World}
    (hm : ∀ p w, I p w → p ≤ 64 * n ∧ ∃ r, RawAt w lo hi s n cap r ∧ Told r ∧ Box w g 49 (.pointer (some ⟨s 14, 0, none⟩)))
    (hq : ∀ p w1 w2 x y, I p w1 → Out x y w1 w2 → (w.heap.size ≤ x ∨ y = 0) → I p w2)
    (hqJ : ∀ w1 w2 x y, J w1 → Out x y w1 w2 → w.heap.size ≤ x → J w2) (hqX : ∀ w1 w2 x y, Jx w1 → Out x y w1 w2 → w.heap.size ≤ x → Jx w2)
    (hy : ∀ p w1 r (k : Nat) b, I p w1 → RawAt w1 lo hi s n cap r → nxr r.P (64 * n) p = k → r.M (k : Int) = some b → YieldAt Fence.wide 0 Tryz.prog l #[blkV k b] w1 fun e w' => Out 0 w.heap.size w1 w' ∧ ((e = .returned (.bool true) ∧ I (k + 1) w') ∨ (e = .returned (.bool false) ∧ Jx w')))
    (he : ∀ p w1 r, I p w1 → RawAt w1 lo hi s n cap r → nxr r.P (64 * n) p = -1 → J w1) (h0 : I 0 w) :
    Calls Tryz.prog 84 #[.func (.yield l) #[] #[], .pointer (some ⟨g, 0, none⟩)] w fun e w' => (∃ v, e = .returned v) ∧ (J w' ∨ Jx w') :=
  sAll_yieldW I J Jx hm (fun p w1 w2 x y h o hx => hq p w1 w2 x y h o (by omega)) (fun w1 w2 x y h o hx => hqJ w1 w2 x y h o (by omega)) (fun w1 w2 x y h o hx => hqX w1 w2 x y h o (by omega))
    (fun p w1 r k b h1 h2 h3 h4 => by
      obtain ⟨fn, tmps, assign, body, h5, h6⟩ := hy p w1 r k b h1 h2 h3 h4
      exact ⟨fn, tmps, assign, body, h5, h6.mono fun e w' h => ⟨h.1.sv, h.2⟩⟩) he h0
end Go.Proofs.YtcpignkjlnjjmaaGreatDoor
