import Derived.Test.YtjbbkeoolodeaabDoorMf
import Derived.Test.YtjbbkeoolodeaabDoorMe
import Derived.Test.YtjbbkeoolodeaabDoorMd
import Derived.Deep.RegionHeld3
namespace Go.Proofs.YtjbbkeoolodeaabDoor
open Go.RowKit
attribute [local go_sem] Oper.semAt_some
set_option linter.unusedVariables false
set_option linter.unusedSimpArgs false

theorem roundIn_wide {m : Nat} {P : Program} {l : Nat} {f : FuncId} {tmps : Array Value} {assign body : Code} {w : World} {R : Ending → World → Prop} (h : RoundIn Fence.wide 0 P l f tmps assign body w R) : RoundIn Fence.wide m P l f tmps assign body w R :=
  ⟨h.1, fun c cs _ => h.2 c cs (room_wide _)⟩
set_option maxRecDepth 100000 in
set_option maxHeartbeats 2000000 in
/-- the rounds of a loop over the numbers of a map: I p: those below p have come -/
theorem bAll_yield {lo hi b n g l : Nat} (I : Nat → World → Prop) (J Jx : World → Prop)
    (hm : ∀ p w, I p w → p ≤ n ∧ ∃ S, MapAt w lo hi b n S ∧ Box w g 78 (.pointer (some ⟨b, 0, none⟩)))
    (hq : ∀ p w w', I p w → Out 0 0 w w' → I p w')
    (hy : ∀ p w S (k : Nat), I p w → MapAt w lo hi b n S → nxr S n p = k → YieldAt Fence.wide 0 Tryd.prog l #[.int .i64 (k : Int)] w fun e w' => (e = .returned (.bool true) ∧ I (k + 1) w') ∨ (e = .returned (.bool false) ∧ Jx w'))
    (he : ∀ p w S, I p w → MapAt w lo hi b n S → nxr S n p = -1 → J w) {w : World} (h0 : I 0 w) :
    Calls Tryd.prog 72 #[.func (.yield l) #[] #[], .pointer (some ⟨g, 0, none⟩)] w fun e w' => (∃ v, e = .returned v) ∧ (J w' ∨ Jx w') := by
  obtain ⟨hp0, S0, hS0, hb0⟩ := hm 0 w h0
  have c0 := hb0.cell
  have HX := hid_mk (next_any hS0 0)
  rw [show (0 : Int).toNat = 0 from rfl] at HX
  have HM := hid_mk hm
  have HQ := hid_mk hq
  have HY := hid_mk hy
  have HE := hid_mk he
  have HI := hid_mk h0
  have HN := hid_mk hS0.bounds
  have HS := hid_mk hS0
  clear hm hq hy he h0 hS0 hb0 hp0
  refine (callsIn_wide (n := 0)).1 ?_
  refine callsIn_of_wp Tryd.func72 rfl trivial ?_ rfl
  simp only [Tryd.ntmps72, List.size_toArray, List.length_cons, List.length_nil, Nat.reduceAdd, Nat.reduceSub, Array.replicate_succ, Array.replicate_zero, List.push_toArray, List.append_toArray, List.nil_append, List.cons_append]
  gi_wp2_with (refine ⟨trivial, rfl, ?_⟩; gi_at_call 35; refine (callsIn_wide.2 HX.out).mono ?_; rintro e w1 ⟨rfl, ho⟩)
  have HI1 := hid_mk (HQ.out 0 w w1 HI.out ho)
  obtain ⟨z, hz⟩ : ∃ z, nxr S0 n 0 = z := ⟨_, rfl⟩
  have HZ : Hid (∃ S, MapAt w1 lo hi b n S ∧ nxr S n 0 = z) := ⟨S0, HS.out.quiet ho, hz⟩
  rw [hz]
  clear ho c0 hz HX
  gi_loopw [3] (fun v wr => ∃ (p : Nat) (S : Nat → Bool), v = .int .i64 (nxr S n p) ∧ MapAt wr lo hi b n S ∧ I p wr) (fun v _ => if intOf v < 0 then 0 else ((n : Int) - intOf v).toNat)
  case atStart =>
    obtain ⟨S, h1, rfl⟩ := HZ.out
    exact ⟨0, S, rfl, h1, HI1.out⟩
  case round =>
    obtain ⟨p, S, rfl, hS, hI⟩ := hrel
    rcases nxr_cases S n p with ⟨e1, e2⟩ | ⟨k, e1, k1, k2, k3, k4⟩
    · have HJ := hid_mk (HE.out p wr S hI hS e1)
      rw [e1]
      clear hS hI e1 e2
      gi_wp2
      exact bodyPost_end (results_none Tryd.results72 _ _ _) rfl ⟨⟨_, rfl⟩, .inl HJ.out⟩
    · obtain ⟨fn, tmps, assign, body, hy, hR⟩ := HY.out p wr S k hI hS e1
      have HR := hid_mk (roundIn_wide (m := 0) hR)
      have b0 : (0 : Int) ≤ (k : Int) := by omega
      have b1 : (k : Int) ≤ 262144 := by have := HN.out; omega
      rw [e1]
      clear hS hI e1 hR
      gi_wp2
      refine ⟨rfl, HR.out.mono ?_⟩
      clear HR hy
      rintro e w2 (⟨rfl, hI2⟩ | ⟨rfl, hx⟩)
      · obtain ⟨p2, S2, hS2, hb2⟩ := HM.out _ _ hI2
        have c2 := hb2.cell
        have HX2 := hid_mk (next_any hS2 ((k : Int) + 1))
        rw [show ((k : Int) + 1).toNat = k + 1 from by omega] at HX2
        have HI2 := hid_mk hI2
        have HS2 := hid_mk hS2
        clear hI2 hS2 hb2 p2
        gi_wp2_with (refine ⟨trivial, rfl, ?_⟩; gi_at_call 35; refine (callsIn_wide.2 HX2.out).mono ?_; rintro e w3 ⟨rfl, ho⟩)
        go_roundw
        case rel => exact ⟨k + 1, S2, rfl, HS2.out.quiet ho, HQ.out _ _ _ HI2.out ho⟩
        case measure =>
          have e : ∀ v : Int, intOf (.int .i64 v) = v := fun _ => rfl
          simp only [e]
          rw [if_neg (show ¬ ((k : Int) < 0) from by omega)]
          rcases nxr_cases S2 n (k + 1) with ⟨e1, _⟩ | ⟨k', e1, q1, q2, _, _⟩
          · rw [e1, if_pos (by omega)]; omega
          · rw [e1, if_neg (by omega)]; have := q2 k1; omega
      · have HX := hid_mk hx
        clear hx
        gi_wp2
        exact bodyPost_ret (results_none Tryd.results72 _ _ _) rfl ⟨⟨_, rfl⟩, .inr HX.out⟩
end Go.Proofs.YtjbbkeoolodeaabDoor
namespace Go.Proofs.YtjbbkeoolodeaabDoor
open Go.RowKit
attribute [local go_sem] Oper.semAt_some
set_option linter.unusedVariables false
set_option linter.unusedSimpArgs false

/-- a map holds one set -/
theorem MapAt.one {w : World} {lo hi b n lo' hi' : Nat} {S S' : Nat → Bool} (h : MapAt w lo hi b n S) (h' : MapAt w lo' hi' b n S') : S = S' := by
  obtain ⟨bw, cap, hb, h1, h2, h3, h4, h5, h6, h7, h8, l1, l2, l3, hr⟩ := h
  obtain ⟨bw', cap', hb', k1, k2, k3, k4, k5, k6, k7, k8, m1, m2, m3, hr'⟩ := h'
  rw [hb] at hb'
  have e : bw = bw' := by simp at hb'; exact hb'.1
  subst e
  funext j
  by_cases hj : j < n
  · have a := hr.cell (nw_lt hj)
    have b := hr'.cell (nw_lt hj)
    rw [a] at b
    simp at b
    have e1 := pk_bit S (j / 64) (j % 64)
    have e2 := pk_bit S' (j / 64) (j % 64)
    rw [show pk S (j / 64) = pk S' (j / 64) from by omega, e2, show 64 * (j / 64) + j % 64 = j from by omega, show decide (j % 64 < 64) = true from by simp; omega] at e1
    simpa using e1.symm
  · rw [h7 j (by omega), k7 j (by omega)]
theorem spAll_any (b : Nat) (w : World) :
    Calls Tryd.prog 31 #[.pointer (some ⟨b, 0, none⟩)] w fun e w' => e = .returned (.func (.func 49) #[] #[.pointer (some ⟨w.heap.size, 0, none⟩)]) ∧ w' = w.alloc (.cells #[.pointer (some ⟨b, 0, none⟩)] 30) := by
  go_enter Tryd.func31, Tryd.ntmps31
  go_wp2
  go_ret
  exact ⟨rfl, rfl⟩
theorem yield_said {e : Ending} {p a b : Prop} (h : p ∧ ((e = .returned (.bool true) ∧ a) ∨ (e = .returned (.bool false) ∧ b))) : ∃ bb : Bool, e = .returned (.bool bb) ∧ p ∧ (bb = true → a) ∧ (bb = false → b) := by
  rcases h with ⟨hp, ⟨he, ha⟩ | ⟨he, hb⟩⟩
  · exact ⟨true, he, hp, fun _ => ha, (fun e => by cases e)⟩
  · exact ⟨false, he, hp, (fun e => by cases e), fun _ => hb⟩
/-- where an object stands it is told -/
def Told (r : Raw) : Prop := ∀ a : Nat, r.P a = true → ∃ b, r.M (a : Int) = some b
/-- the m blocks from B on are as they were -/
def Sv (B m : Nat) (w w' : World) : Prop := ∀ k o, B ≤ k → k < B + m → w.heap[k]? = some o → w'.heap[k]? = some o
theorem Sv.heap {B m k : Nat} {w w' : World} {o : Obj} (h : Sv B m w w') (hk : w.heap[k]? = some o) (h1 : B ≤ k) (h2 : k < B + m) : w'.heap[k]? = some o := h k o h1 h2 hk
theorem Out.sv {B m : Nat} {w w' : World} (h : Out 0 B w w') : Sv B m w w' := fun _ _ h1 _ hk => h.heap hk (.inr h1)
set_option maxRecDepth 100000 in
set_option maxHeartbeats 4000000 in
theorem sAll_yieldW {lo hi n cap g l : Nat} {s : Nat → Nat} (I : Nat → World → Prop) (J Jx : World → Prop) {w : World}
    (hm : ∀ p w, I p w → p ≤ 64 * n ∧ ∃ r, RawAt w lo hi s n cap r ∧ Told r ∧ Box w g 30 (.pointer (some ⟨s 14, 0, none⟩)))
    (hq : ∀ p w1 w2 x y, I p w1 → Out x y w1 w2 → ((w.heap.size ≤ x ∧ y ≤ w.heap.size + 4) ∨ y = 0) → I p w2)
    (hqJ : ∀ w1 w2 x y, J w1 → Out x y w1 w2 → w.heap.size ≤ x ∧ y ≤ w.heap.size + 4 → J w2) (hqX : ∀ w1 w2 x y, Jx w1 → Out x y w1 w2 → w.heap.size ≤ x ∧ y ≤ w.heap.size + 4 → Jx w2)
    (hy : ∀ p w1 r (k : Nat) b, I p w1 → RawAt w1 lo hi s n cap r → nxr r.P (64 * n) p = k → r.M (k : Int) = some b → YieldAt Fence.wide 0 Tryd.prog l #[blkV k b] w1 fun e w' => Sv w.heap.size 4 w1 w' ∧ ((e = .returned (.bool true) ∧ I (k + 1) w') ∨ (e = .returned (.bool false) ∧ Jx w')))
    (he : ∀ p w1 r, I p w1 → RawAt w1 lo hi s n cap r → nxr r.P (64 * n) p = -1 → J w1) (h0 : I 0 w) :
    Calls Tryd.prog 49 #[.func (.yield l) #[] #[], .pointer (some ⟨g, 0, none⟩)] w fun e w' => (∃ v, e = .returned v) ∧ (J w' ∨ Jx w') := by
  obtain ⟨_, r0, hr0, _, hb0⟩ := hm 0 w h0
  have hW0 : Out 0 0 w (w.alloc (.cells #[.func (.yield l) #[] #[]] 92)) := (Out.refl 0 0 w).alloc _
  have hr1 := hr0.quiet hW0
  have c0 := (hb0.kept hW0 (.inr (Nat.zero_le _))).cell
  obtain ⟨d0, d1, d2, d3, d4, d5⟩ := hr1.cells
  have HM := hid_mk hm
  have HQ := hid_mk hq
  have HQJ := hid_mk hqJ
  have HQX := hid_mk hqX
  have HY := hid_mk hy
  have HE := hid_mk he
  have HI := hid_mk h0
  have HG : Hid (g < w.heap.size) := hb0.lt
  have HT : Hid (hi ≤ w.heap.size ∧ 4 ≤ w.heap.size) := ⟨hr0.top, hr0.tab.lt⟩
  clear hm hq hy he h0 hb0 hr0 hr1 hqJ hqX hW0
  refine (callsIn_wide (n := 0)).1 ?_
  refine callsIn_of_wp_marks Tryd.func49 rfl trivial ?_ rfl
  simp only [Tryd.ntmps49, List.size_toArray, List.length_cons, List.length_nil, Nat.reduceAdd, Nat.reduceSub, Array.replicate_succ, Array.replicate_zero, List.push_toArray, List.append_toArray, List.nil_append, List.cons_append]
  gi_wp2_with (first
    | (refine ⟨trivial, rfl, ?_⟩; gi_at_call 32; refine (callsIn_wide.2 (self_any _ _)).mono ?_; rintro e w1 ⟨rfl, rfl⟩)
    | (refine ⟨trivial, rfl, ?_⟩; gi_at_call 50; refine (callsIn_wide.2 (ball_any _ _)).mono ?_; rintro e w1 ⟨rfl, rfl⟩))
  obtain ⟨W1, hW1⟩ : ∃ W1, (w.alloc (.cells #[.func (.yield l) #[] #[]] 92)).alloc (.cells #[.pointer (some ⟨s 8 + 1, 0, none⟩)] 78) = W1 := ⟨_, rfl⟩
  have hs1 : W1.heap.size = w.heap.size + 2 := by rw [← hW1]; simp
  have ho1 : Out 0 0 w W1 := by rw [← hW1]; exact ((Out.refl 0 0 w).alloc _).alloc _
  have hy1 : Box W1 w.heap.size 92 (.func (.yield l) #[] #[]) := by rw [← hW1]; exact two_first
  have hx1 : Box W1 (w.heap.size + 1) 78 (.pointer (some ⟨s 8 + 1, 0, none⟩)) := by rw [← hW1]; exact heap_alloc2_new _ _ _
  rw [hW1]
  clear c0 d0 d1 d2 d3 d4 d5 hW1
  have HO1 := hid_mk ho1
  have HY1 := hid_mk hy1
  have HX1 := hid_mk hx1
  have HS1 := hid_mk hs1
  clear ho1 hy1 hx1
  refine range_any (gf := 72) (lb := #[.pointer (some ⟨w.heap.size + 1, 0, none⟩)]) rfl (enters_of Tryd.func72 (by kernel_rfl) rfl) J (fun c W => c = .ret ∧ Jx W) ?H ?done ?stop
  case H =>
    intro rec hrec W2 hW2
    rw [hs1]
    have HR := hid_mk hrec
    have ho2 : Out 0 0 W1 W2 := by rw [hW2]; exact ((Out.refl 0 0 W1).alloc _).alloc _
    have hd2 : W2.heap[w.heap.size + 2]? = some (.deferred (some [])) := by rw [hW2, ← hs1]; exact two_first
    have hl2 : W2.heap[w.heap.size + 2 + 1]? = some (.loop (rec .ready none)) := by rw [hW2, ← hs1]; exact heap_alloc2_new _ _ _
    refine (bAll_yield (lo := s 8) (hi := s 8 + 2) (b := s 8 + 1) (n := 64 * n) (g := w.heap.size + 1) (l := w.heap.size + 2 + 1)
      (fun p W => I p W ∧ Box W w.heap.size 92 (.func (.yield l) #[] #[]) ∧ Box W (w.heap.size + 1) 78 (.pointer (some ⟨s 8 + 1, 0, none⟩)) ∧ W.heap[w.heap.size + 2]? = some (.deferred (some [])) ∧ W.heap[w.heap.size + 2 + 1]? = some (.loop (rec .ready none)))
      (fun W => J W ∧ W.heap[w.heap.size + 2]? = some (.deferred (some [])) ∧ W.heap[w.heap.size + 2 + 1]? = some (.loop (rec .ready none)))
      (fun W => Jx W ∧ W.heap[w.heap.size + 2]? = some (.deferred (some [])) ∧ W.heap[w.heap.size + 2 + 1]? = some (.loop (rec .done (some .ret)))) ?hm1 ?hq1 ?hy1 ?he1 (w := W2) ?hz1).mono ?_
    case hm1 =>
      rintro p W ⟨a1, a2, a3, a4, a5⟩
      obtain ⟨b1, r, b2, b3, b4⟩ := HM.out p W a1
      exact ⟨b1, r.P, b2.places, a3⟩
    case hq1 =>
      rintro p W W' ⟨a1, a2, a3, a4, a5⟩ o
      exact ⟨HQ.out p W W' 0 0 a1 o (.inr rfl), a2.kept o (.inr (Nat.zero_le _)), a3.kept o (.inr (Nat.zero_le _)), o.heap a4 (.inr (Nat.zero_le _)), o.heap a5 (.inr (Nat.zero_le _))⟩
    case hz1 => exact ⟨HQ.out 0 W1 W2 0 0 (HQ.out 0 w W1 0 0 HI.out HO1.out (.inr rfl)) ho2 (.inr rfl), HY1.out.kept ho2 (.inr (Nat.zero_le _)), HX1.out.kept ho2 (.inr (Nat.zero_le _)), hd2, hl2⟩
    case he1 =>
      rintro p W S ⟨a1, a2, a3, a4, a5⟩ hS hn
      obtain ⟨b1, r, b2, b3, b4⟩ := HM.out p W a1
      rw [hS.one b2.places] at hn
      exact ⟨HE.out p W r a1 b2 hn, a4, a5⟩
    case hy1 =>
      rintro p W S k ⟨a1, a2, a3, a4, a5⟩ hS hn
      obtain ⟨b1, r, b2, b3, b4⟩ := HM.out p W a1
      rw [hS.one b2.places] at hn
      have hk : r.P k = true := by
        rcases nxr_cases r.P (64 * n) p with ⟨e1, _⟩ | ⟨i, e1, _, _, e3, _⟩
        · omega
        · rw [show k = i from by omega]; exact e3
      obtain ⟨⟨kd, sz, se, tg⟩, hb⟩ := b3 k hk
      have HYY := hid_mk (fun W' (o : Out (w.heap.size + 2 + 1) (w.heap.size + 2 + 1 + 1) W W') => HY.out p W' r k _ (HQ.out p W W' _ _ a1 o (.inl (by omega))) (b2.kept o (.inl (by have := HT.out; omega)) (.inl (by have := HT.out; omega))) hn hb)
      have A := hid_mk (And.intro a2 (And.intro a4 b4))
      have AX := hid_mk a3
      have B2 := hid_mk b2
      have HB := hid_mk hb
      have HL5 := hid_mk a5
      have hk0 : (0 : Int) ≤ (k : Int) := by omega
      refine round_any HR.out a5 rfl ?_
      clear a1 a2 a3 a4 a5 b1 b2 b3 b4 hS hn hk hb
      gi_wp2
      refine ⟨HL5.out, ?_⟩
      intro W3 ho3 hl3
      have ho4 : Out (w.heap.size + 2 + 1) (w.heap.size + 2 + 1 + 1) W W3.drew := ho3.drew
      have B3 := B2.out.kept ho4 (.inl (by have := HT.out; omega)) (.inl (by have := HT.out; omega))
      obtain ⟨d0, d1, d2, d3, d4, d5⟩ := B3.cells
      have c0 := (A.out.1.kept ho4 (.inl (by omega))).cell
      have c1 := (A.out.2.2.kept ho4 (.inl (by have := A.out.2.2.lt; have := B2.out.top; have := HT.out; have := HG.out; omega))).cell
      have hlk := B3.look false (k : Int)
      rw [show mapM r.M (k : Int) = some (.agg #[.int .i64 (k : Int), .int .i64 kd, .int .i64 sz, .int .i64 se, .int .i64 tg]) from by unfold mapM; rw [HB.out]; rfl] at hlk
      simp only [Option.getD_some, Bool.false_eq_true, if_false] at hlk
      obtain ⟨fn, tmps, assign, body, hy, hR⟩ := HYY.out W3.drew ho4
      have HRR := hid_mk ((roundIn_wide (m := 0) hR).mono (R' := fun e W4 => ∃ bb : Bool, e = .returned (.bool bb) ∧ Sv w.heap.size 4 W3.drew W4 ∧ (bb = true → I (k + 1) W4) ∧ (bb = false → Jx W4)) (fun e W4 h => yield_said h))
      have hmx : Tryd.prog.follows .mixedOrders = true := by kernel_rfl
      have HO4 := hid_mk ho4
      have HL3 := hid_mk hl3
      unfold blkV at hy
      clear hR ho3 ho4 B3 hl3
      gi_wp2_with fail
      gi_region_with_o (first | (refine ⟨rfl, ?_⟩; refine RoundIn.mono (F := Fence.wide.inRound (w.heap.size + 2 + 1)) HRR.out ?_; rintro e W4 ⟨bb, rfl, ho5, hI4, hx4⟩))
      all_goals
        have HO5 := hid_mk (ho5)
        have HH4 := hid_mk (And.intro hI4 hx4)
        clear ho5 hI4 hx4
        cases bb
        · gi_wp2
          refine ⟨HO5.out.heap HL3.out (by omega) (by omega), ?_⟩
          intro W5 ho6 hl6
          exact .inr ⟨rfl, HQX.out _ _ _ _ (HH4.out.2 (by first | rfl | trivial)) ho6 (by omega), ho6.heap (HO5.out.heap ((HO4.out.heap A.out.2.1 (.inl (by omega)))) (by omega) (by omega)) (.inl (by omega)), hl6⟩
        · gi_wp2
          refine ⟨HO5.out.heap HL3.out (by omega) (by omega), ?_⟩
          intro W5 ho6 hl6
          exact .inl ⟨rfl, HQ.out _ _ _ _ _ (HH4.out.1 (by first | rfl | trivial)) ho6 (.inl (by omega)), (ho6.heap (HO5.out.heap (A.out.1.kept HO4.out (.inl (by omega))) (by omega) (by omega)) (.inl (by omega))), (ho6.heap (HO5.out.heap (AX.out.kept HO4.out (.inl (by omega))) (by omega) (by omega)) (.inl (by omega))), ho6.heap (HO5.out.heap ((HO4.out.heap A.out.2.1 (.inl (by omega)))) (by omega) (by omega)) (.inl (by omega)), hl6⟩
    · rintro e W ⟨hv, ⟨a1, a2, a3⟩ | ⟨a1, a2, a3⟩⟩
      · exact ⟨hv, a2, .inl ⟨a1, a3⟩⟩
      · exact ⟨hv, a2, .inr ⟨.ret, ⟨rfl, a1⟩, a3⟩⟩
  case done =>
    intro W W' hJ ho hd
    have HJ := hid_mk (HQJ.out W W' _ _ hJ ho (by omega))
    have HD := hid_mk hd
    clear hJ ho hd
    gi_wp2
    refine ⟨by simp, .inl ⟨_, _, rfl, run_takeDeferred HD.out, ?_⟩⟩
    exact ⟨_, results_none rfl _ _ _, ⟨_, rfl⟩, .inl (HQJ.out _ _ _ _ HJ.out (out_putObj _ _ _) (by omega))⟩
  case stop =>
    rintro c W W' ⟨rfl, hJ⟩ ho hd
    have HJ := hid_mk (HQX.out W W' _ _ hJ ho (by omega))
    have HD := hid_mk hd
    clear hJ ho hd
    gi_wp2
    refine ⟨by simp, .inl ⟨_, _, rfl, run_takeDeferred HD.out, ?_⟩⟩
    exact ⟨_, results_none rfl _ _ _, ⟨_, rfl⟩, .inr (HQX.out _ _ _ _ HJ.out (out_putObj _ _ _) (by omega))⟩
theorem sAll_yield {lo hi n cap g l : Nat} {s : Nat → Nat} (I : Nat → World → Prop) (J Jx : World → Prop) {w : World}
    (hm : ∀ p w, I p w → p ≤ 64 * n ∧ ∃ r, RawAt w lo hi s n cap r ∧ Told r ∧ Box w g 30 (.pointer (some ⟨s 14, 0, none⟩)))
    (hq : ∀ p w1 w2 x y, I p w1 → Out x y w1 w2 → (w.heap.size ≤ x ∨ y = 0) → I p w2)
    (hqJ : ∀ w1 w2 x y, J w1 → Out x y w1 w2 → w.heap.size ≤ x → J w2) (hqX : ∀ w1 w2 x y, Jx w1 → Out x y w1 w2 → w.heap.size ≤ x → Jx w2)
    (hy : ∀ p w1 r (k : Nat) b, I p w1 → RawAt w1 lo hi s n cap r → nxr r.P (64 * n) p = k → r.M (k : Int) = some b → YieldAt Fence.wide 0 Tryd.prog l #[blkV k b] w1 fun e w' => Out 0 w.heap.size w1 w' ∧ ((e = .returned (.bool true) ∧ I (k + 1) w') ∨ (e = .returned (.bool false) ∧ Jx w')))
    (he : ∀ p w1 r, I p w1 → RawAt w1 lo hi s n cap r → nxr r.P (64 * n) p = -1 → J w1) (h0 : I 0 w) :
    Calls Tryd.prog 49 #[.func (.yield l) #[] #[], .pointer (some ⟨g, 0, none⟩)] w fun e w' => (∃ v, e = .returned v) ∧ (J w' ∨ Jx w') :=
  sAll_yieldW I J Jx hm (fun p w1 w2 x y h o hx => hq p w1 w2 x y h o (by omega)) (fun w1 w2 x y h o hx => hqJ w1 w2 x y h o (by omega)) (fun w1 w2 x y h o hx => hqX w1 w2 x y h o (by omega))
    (fun p w1 r k b h1 h2 h3 h4 => by
      obtain ⟨fn, tmps, assign, body, h5, h6⟩ := hy p w1 r k b h1 h2 h3 h4
      exact ⟨fn, tmps, assign, body, h5, h6.mono fun e w' h => ⟨h.1.sv, h.2⟩⟩) he h0
end Go.Proofs.YtjbbkeoolodeaabDoor
namespace Go.Proofs.YtjbbkeoolodeaabDoor
open Go.RowKit
set_option linter.unusedVariables false
set_option linter.unusedSimpArgs false

/-- what is written beyond the first world's end counts for nothing -/
theorem out_far {lo hi x y : Nat} {a b c : World} (h : Out lo hi a b) (g : Out x y b c) (hx : a.heap.size ≤ x ∨ y = 0) : Out lo hi a c := by
  rcases hx with hx | hx
  · exact h.past g hx
  · subst hx
    exact h.trans ⟨g.1, g.2.1, g.2.2.1, g.size, fun k h1 _ => g.block h1 (by omega)⟩
def noOut (Q : Exit → Act → World → Prop) : Exit → Act → World → Prop
  | .outgrown, _, _ => False
  | e, a, w => Q e a w
def noDefer (ops : Array Oper) : Bool := ops.toList.all fun o => match o.op with | .defer _ => false | _ => true
theorem noDefer_at {ops : Array Oper} (h : noDefer ops = true) {i : Nat} {o : Oper} (ho : ops[i]? = some o) : ∀ c, o.op ≠ .defer c := by
  intro c e
  unfold noDefer at h
  rw [List.all_eq_true] at h
  have := h o (List.mem_of_getElem? (by simpa using ho))
  rw [e] at this
  cases this
theorem rows_wide {n : Nat} {P : Program} {row : String} {args : Array Value} {w : World} {R : Value → World → Prop} (h : Rows P row args w R) : RowsIn Fence.wide n P row args w R :=
  fun c cs _ => by
    obtain ⟨v, w', hr, hs⟩ := h c cs
    exact ⟨v, w', hr, stepsIn_wide.2 hs⟩
section
variable {P : Program} {ops : Array Oper} {Q : Exit → Act → World → Prop} {md : Region.Mode} {l : Nat}
theorem wpOpIn_round {i : Nat} {K K' : Act → World → Prop} {a : Act} {w : World} (hd : noDefer ops = true) (hk : ∀ a w, K a w → K' a w) (h : wpOp P ops (noOut Q) i K a w) : wpOpIn (Fence.wide.inRound l) 0 P ops Q i K' a w := by
  unfold wpOp at h
  unfold wpOpIn
  cases ho : ops[i]? with
  | none => rw [ho] at h; exact hk _ _ h
  | some o =>
    rw [ho] at h
    simp only at h ⊢
    by_cases hw : Region.wanted o (yielded ops a.tmps) = true
    · rw [if_pos hw] at h ⊢
      rcases h with h | ⟨_, hl⟩
      case inr =>
        obtain ⟨_, _, hf⟩ := hl
        exact hf.elim
      refine ⟨fun _ _ => trivial, ?_⟩
      rw [Oper.semAt_eq _ _ _ (noDefer_at hd ho)]
      unfold Oper.wp at h
      generalize (execOp a.eval o).run P w = r at *
      cases r with
      | ok x w' =>
        cases x <;> simp only [Oper.upon, Oper.uponIn] at h ⊢
        case value u => exact hk _ _ h
        case skip => exact hk _ _ h
        case defer d => exact hk _ _ h
        case enter f args =>
          refine ⟨fun hh => by simp [Fence.wide] at hh, callsIn_wide.2 (h.mono ?_)⟩
          intro e w'' he
          cases e with
          | returned u => exact hk _ _ he
          | panicked c => exact he
          | outgrown =>
            obtain ⟨_, _, hf⟩ := he
            exact hf.elim
        case row row args =>
          refine ⟨fun hh => by simp [Fence.wide] at hh, rows_wide (h.mono ?_)⟩
          intro u w'' he
          exact hk _ _ he
      | halt x w' =>
        cases x <;> simp only [Oper.upon, Oper.uponIn] at h ⊢
        case panic u => exact h
    · rw [if_neg hw] at h ⊢
      exact ⟨fun _ _ => trivial, hk _ _ h⟩
theorem wpAnyIn_round (hd : noDefer ops = true) : ∀ (fuel : Nat) (listed : Array Bool) (a : Act) (w : World), wpAny P md ops (noOut Q) fuel listed a w → wpAnyIn (Fence.wide.inRound l) 0 P md ops Q fuel listed a w
  | 0, _, _, _, h => h
  | fuel + 1, _, _, _, h => ⟨h.1, fun i hi => wpOpIn_round hd (fun a' w' h' => wpAnyIn_round hd fuel _ a' w' h') (h.2 i hi)⟩
/-- a region that draws its order, in a round: walked as anywhere -/
theorem region_round {id : Nat} {S : World → Prop} {a : Act} {w : World} (hm : P.follows .mixedOrders = true) (hd : noDefer ops = true) (hS : S w.drew)
    (h : S w.drew → wpAnyH P .any ops (noOut Q) S ops.size (Array.replicate ops.size false) a w.drew) : (Code.region id ops true).wpIn (Fence.wide.inRound l) 0 P Q a w :=
  wpIn_region_any hm (wpAnyIn_round hd _ _ _ _ (wpAny_of_held _ _ _ _ (h hS)))
end
/-- an end that is no other than the normal one -/
def onlyN (K : Act → World → Prop) : Exit → Act → World → Prop
  | .normal, a, w => K a w
  | _, _, _ => False
theorem onlyN_sub {Q : Exit → Act → World → Prop} : ∀ (e : Exit) (a : Act) (w : World), onlyN (Q .normal) e a w → Q e a w
  | .normal, _, _, h => h
  | .ret, _, _, h => h.elim
  | .exit _, _, _, h => h.elim
  | .goto _, _, _, h => h.elim
  | .panic _, _, _, h => h.elim
  | .outgrown, _, _, h => h.elim
theorem wpIn_only {P : Program} {c : Code} {Q : Exit → Act → World → Prop} {a : Act} {w : World} (h : c.wp P (onlyN (Q .normal)) a w) : c.wpIn Fence.wide 0 P Q a w :=
  wpIn_mono (wpIn_wide.2 h) onlyN_sub
/-- a region that draws its order, in a round: walked as anywhere -/
theorem region_roundN {P : Program} {ops : Array Oper} {Q : Exit → Act → World → Prop} {l id : Nat} {S : World → Prop} {a : Act} {w : World} (hm : P.follows .mixedOrders = true) (hd : noDefer ops = true) (hS : S w.drew)
    (h : S w.drew → wpAnyH P .any ops (noOut (onlyN (Q .normal))) S ops.size (Array.replicate ops.size false) a w.drew) : (Code.region id ops true).wpIn (Fence.wide.inRound l) 0 P Q a w :=
  wpIn_mono (region_round hm hd hS h) onlyN_sub
end Go.Proofs.YtjbbkeoolodeaabDoor
namespace Go.Proofs.YtjbbkeoolodeaabDoor
open Go.RowKit
attribute [local go_sem] Oper.semAt_some
set_option linter.unusedVariables false
set_option linter.unusedSimpArgs false

/-- a map holds one set -/
theorem MapAt.only {w : World} {lo hi b n lo' hi' : Nat} {S S' : Nat → Bool} (h : MapAt w lo hi b n S) (h' : MapAt w lo' hi' b n S') : S = S' := by
  obtain ⟨bw, cap, hb, h1, h2, h3, h4, h5, h6, h7, h8, l1, l2, l3, hr⟩ := h
  obtain ⟨bw', cap', hb', k1, k2, k3, k4, k5, k6, k7, k8, m1, m2, m3, hr'⟩ := h'
  rw [hb] at hb'
  have e : bw = bw' := by simp at hb'; exact hb'.1
  subst e
  funext j
  by_cases hj : j < n
  · have a := hr.cell (nw_lt hj)
    have b := hr'.cell (nw_lt hj)
    rw [a] at b
    simp at b
    have e1 := pk_bit S (j / 64) (j % 64)
    have e2 := pk_bit S' (j / 64) (j % 64)
    rw [show pk S (j / 64) = pk S' (j / 64) from by omega, e2, show 64 * (j / 64) + j % 64 = j from by omega, show decide (j % 64 < 64) = true from by simp; omega] at e1
    simpa using e1.symm
  · rw [h7 j (by omega), k7 j (by omega)]
theorem links_any (b : Nat) (c : Int) (w : World) :
    Calls Tryd.prog 55 #[.pointer (some ⟨b, 0, none⟩), .int .i64 c] w fun e w' => e = .returned (.func (.func 75) #[] #[.pointer (some ⟨w.heap.size, 0, none⟩), .pointer (some ⟨w.heap.size + 1, 0, none⟩)]) ∧
      w' = (w.alloc (.cells #[.pointer (some ⟨b, 0, none⟩)] 30)).alloc (.cells #[.int .i64 c] 3) := by
  go_enter Tryd.func55, Tryd.ntmps55
  go_wp2
  go_ret
  exact ⟨rfl, rfl⟩
/-- at p: the last number that has come, and what is still to be told of it -/
def Pend (S : Nat → Bool) (I : Nat → World → Prop) (p : Nat) (v : Int) (W : World) : Prop :=
  (v = -1 ∧ (∀ j, j < p → S j = false) ∧ I 0 W) ∨ ∃ a : Nat, v = a ∧ a < p ∧ S a = true ∧ (∀ j, a < j → j < p → S j = false) ∧ I a W
theorem Pend.some {S : Nat → Bool} {I : Nat → World → Prop} {p : Nat} {v : Int} {W : World} (h : Pend S I p v W) : ∃ q, I q W := by
  rcases h with ⟨_, _, h⟩ | ⟨a, _, _, _, _, h⟩
  · exact ⟨_, h⟩
  · exact ⟨_, h⟩
theorem Pend.map {S : Nat → Bool} {I : Nat → World → Prop} {p : Nat} {v : Int} {W W' : World} (h : Pend S I p v W) (f : ∀ q, I q W → I q W') : Pend S I p v W' := by
  rcases h with ⟨a, b, h⟩ | ⟨a, x1, x2, x3, x4, h⟩
  · exact .inl ⟨a, b, f _ h⟩
  · exact .inr ⟨a, x1, x2, x3, x4, f _ h⟩
theorem Pend.to_end {S : Nat → Bool} {I : Nat → World → Prop} {p N : Nat} {v : Int} {W : World} (h : Pend S I p v W) (hp : p ≤ N) (hz : ∀ j, p ≤ j → j < N → S j = false) : Pend S I N v W := by
  rcases h with ⟨a, b, h⟩ | ⟨a, x1, x2, x3, x4, h⟩
  · exact .inl ⟨a, (fun j hj => by by_cases e : j < p; exact b j e; exact hz j (by omega) hj), h⟩
  · exact .inr ⟨a, x1, by omega, x3, (fun j j1 j2 => by by_cases e : j < p; exact x4 j j1 e; exact hz j (by omega) j2), h⟩
theorem nxr_of {S : Nat → Bool} {N a k : Nat} (hk : k < N) (ha : a ≤ k) (hS : S k = true) (hz : ∀ j, a ≤ j → j < k → S j = false) : nxr S N a = (k : Int) := by
  have := nx_eq S N a k ha (by omega) hz (fun _ => hS)
  unfold nxr
  rw [this, if_pos hk]
set_option maxRecDepth 100000 in
set_option maxHeartbeats 4000000 in
theorem links_yield {lo hi n cap g gc l c : Nat} {s : Nat → Nat} {S : Nat → Bool} (hc : c < 8) (I : Nat → World → Prop) (J Jx : World → Prop) {w : World}
    (hm : ∀ p w, I p w → ∃ r, RawAt w lo hi s n cap r ∧ r.F c = S ∧ Box w g 30 (.pointer (some ⟨s 14, 0, none⟩)) ∧ Box w gc 3 (.int .i64 (c : Int)))
    (hq : ∀ p w1 w2 x y, I p w1 → Out x y w1 w2 → (w.heap.size ≤ x ∨ y = 0) → I p w2)
    (hs : ∀ p q w1, I p w1 → p ≤ q → (∀ j, p ≤ j → j < q → S j = false) → I q w1)
    (hqJ : ∀ w1 w2 x y, J w1 → Out x y w1 w2 → w.heap.size ≤ x → J w2) (hqX : ∀ w1 w2 x y, Jx w1 → Out x y w1 w2 → w.heap.size ≤ x → Jx w2)
    (hy : ∀ (a : Nat) w1, I a w1 → S a = true → a < 64 * n → YieldAt Fence.wide 0 Tryd.prog l #[.int .i64 (a : Int), .int .i64 (nxr S (64 * n) (a + 1))] w1 fun e w' => Out 0 w.heap.size w1 w' ∧ ((e = .returned (.bool true) ∧ I (a + 1) w') ∨ (e = .returned (.bool false) ∧ Jx w')))
    (he : ∀ p w1, I p w1 → (∀ j, p ≤ j → j < 64 * n → S j = false) → J w1) (h0 : I 0 w) :
    Calls Tryd.prog 75 #[.func (.yield l) #[] #[], .pointer (some ⟨g, 0, none⟩), .pointer (some ⟨gc, 0, none⟩)] w fun e w' => (∃ v, e = .returned v) ∧ (J w' ∨ Jx w') := by
  obtain ⟨r0, hr0, _, hb0, hb1⟩ := hm 0 w h0
  have hW0 : Out 0 0 w ((w.alloc (.cells #[.func (.yield l) #[] #[]] 63)).alloc (.cells #[.int .i64 (-1)] 3)) := ((Out.refl 0 0 w).alloc _).alloc _
  have hr1 := hr0.quiet hW0
  have c0 := (hb0.kept hW0 (.inr (Nat.zero_le _))).cell
  have c1 := (hb1.kept hW0 (.inr (Nat.zero_le _))).cell
  have cF := hr1.cellF hc
  have HM := hid_mk hm
  have HQ := hid_mk hq
  have HS := hid_mk hs
  have HQJ := hid_mk hqJ
  have HQX := hid_mk hqX
  have HY := hid_mk hy
  have HE := hid_mk he
  have HI := hid_mk h0
  have HG : Hid (g < w.heap.size ∧ gc < w.heap.size) := ⟨hb0.lt, hb1.lt⟩
  have HT : Hid (hi ≤ w.heap.size ∧ 4 ≤ w.heap.size) := ⟨hr0.top, hr0.tab.lt⟩
  have HC := hid_mk hc
  have k0 : (0 : Int) ≤ (c : Int) := by omega
  have k1 : (c : Int) < 8 := by omega
  clear hm hq hs hy he h0 hb0 hb1 hr0 hr1 hqJ hqX hW0 hc
  refine (callsIn_wide (n := 0)).1 ?_
  refine callsIn_of_wp_marks Tryd.func75 rfl trivial ?_ rfl
  simp only [Tryd.ntmps75, List.size_toArray, List.length_cons, List.length_nil, Nat.reduceAdd, Nat.reduceSub, Array.replicate_succ, Array.replicate_zero, List.push_toArray, List.append_toArray, List.nil_append, List.cons_append]
  gi_wp2_with fail
  refine wpIn_only ?_
  go_region_held3 (fun w' => w'.cell? ⟨g, 0, none⟩ = some (.pointer (some ⟨s 14, 0, none⟩)) ∧ w'.cell? ⟨gc, 0, none⟩ = some (.int .i64 (c : Int)) ∧ w'.cell? ⟨s 14, 4 + c, none⟩ = some (.pointer (some ⟨s c + 1, 0, none⟩))) (go_keep)
    (first | (go_at_call 50; refine (ball_any _ _).mono ?_; rintro e w1 ⟨rfl, rfl⟩))
  obtain ⟨W1, hW1⟩ : ∃ W1, (((w.alloc (.cells #[.func (.yield l) #[] #[]] 63)).alloc (.cells #[.int .i64 (-1)] 3)).alloc (.cells #[.pointer (some ⟨s c + 1, 0, none⟩)] 78)).drew = W1 := ⟨_, rfl⟩
  have hs1 : W1.heap.size = w.heap.size + 3 := by rw [← hW1]; simp
  have ho1 : Out 0 0 w W1 := by rw [← hW1]; exact ((((Out.refl 0 0 w).alloc _).alloc _).alloc _).drew
  have hy1 : Box W1 w.heap.size 63 (.func (.yield l) #[] #[]) := by rw [← hW1]; exact Box.kept (w := ((w.alloc (.cells #[.func (.yield l) #[] #[]] 63)).alloc (.cells #[.int .i64 (-1)] 3))) two_first (((Out.refl 0 0 _).alloc _).drew) (.inr (Nat.zero_le _))
  have hx1 : Box W1 (w.heap.size + 1) 3 (.int .i64 (-1)) := by rw [← hW1]; exact Box.kept (w := ((w.alloc (.cells #[.func (.yield l) #[] #[]] 63)).alloc (.cells #[.int .i64 (-1)] 3))) (heap_alloc2_new _ _ _) (((Out.refl 0 0 _).alloc _).drew) (.inr (Nat.zero_le _))
  have hz1 : Box W1 (w.heap.size + 1 + 1) 78 (.pointer (some ⟨s c + 1, 0, none⟩)) := by
    rw [← hW1]
    have := heap_alloc_new ((w.alloc (.cells #[.func (.yield l) #[] #[]] 63)).alloc (.cells #[.int .i64 (-1)] 3)) (.cells #[.pointer (some ⟨s c + 1, 0, none⟩)] 78)
    rw [World.size_alloc, World.size_alloc] at this
    exact this
  rw [hW1]
  clear hW1
  have HO1 := hid_mk ho1
  have HY1 := hid_mk hy1
  have HX1 := hid_mk hx1
  have HZ1 := hid_mk hz1
  clear ho1 hy1 hx1 hz1 c0 c1 cF
  simp only [onlyN]
  gi_wp2_with fail
  refine range_any (gf := 72) (lb := #[.pointer (some ⟨w.heap.size + 1 + 1, 0, none⟩)]) rfl (enters_of Tryd.func72 (by kernel_rfl) rfl)
    (fun W => ∃ v : Int, Box W (w.heap.size + 1) 3 (.int .i64 v) ∧ Pend S I (64 * n) v W ∧ Box W w.heap.size 63 (.func (.yield l) #[] #[])) (fun c W => c = .ret ∧ Jx W) ?H ?done ?stop
  case H =>
    intro rec hrec W2 hW2
    rw [hs1]
    have HR := hid_mk hrec
    have ho2 : Out 0 0 W1 W2 := by rw [hW2]; exact ((Out.refl 0 0 W1).alloc _).alloc _
    have hd2 : W2.heap[w.heap.size + 3]? = some (.deferred (some [])) := by rw [hW2, ← hs1]; exact two_first
    have hl2 : W2.heap[w.heap.size + 3 + 1]? = some (.loop (rec .ready none)) := by rw [hW2, ← hs1]; exact heap_alloc2_new _ _ _
    refine (bAll_yield (lo := s c) (hi := s c + 2) (b := s c + 1) (n := 64 * n) (g := w.heap.size + 1 + 1) (l := w.heap.size + 3 + 1)
      (fun p W => p ≤ 64 * n ∧ (∃ v : Int, Box W (w.heap.size + 1) 3 (.int .i64 v) ∧ Pend S I p v W) ∧ Box W w.heap.size 63 (.func (.yield l) #[] #[]) ∧ Box W (w.heap.size + 1 + 1) 78 (.pointer (some ⟨s c + 1, 0, none⟩)) ∧ W.heap[w.heap.size + 3]? = some (.deferred (some [])) ∧ W.heap[w.heap.size + 3 + 1]? = some (.loop (rec .ready none)))
      (fun W => (∃ v : Int, Box W (w.heap.size + 1) 3 (.int .i64 v) ∧ Pend S I (64 * n) v W ∧ Box W w.heap.size 63 (.func (.yield l) #[] #[])) ∧ W.heap[w.heap.size + 3]? = some (.deferred (some [])) ∧ W.heap[w.heap.size + 3 + 1]? = some (.loop (rec .ready none)))
      (fun W => Jx W ∧ W.heap[w.heap.size + 3]? = some (.deferred (some [])) ∧ W.heap[w.heap.size + 3 + 1]? = some (.loop (rec .done (some .ret)))) ?hm1 ?hq1 ?hy1 ?he1 (w := W2) ?hz1).mono ?_
    case hm1 =>
      rintro p W ⟨a0, ⟨v, a1, a2⟩, a3, a4, a5, a6⟩
      obtain ⟨q, hIq⟩ := a2.some
      obtain ⟨r, b1, b2, b3, b4⟩ := HM.out q W hIq
      exact ⟨a0, S, by rw [← b2]; exact b1.free c HC.out, a4⟩
    case hq1 =>
      rintro p W W' ⟨a0, ⟨v, a1, a2⟩, a3, a4, a5, a6⟩ o
      exact ⟨a0, ⟨v, a1.kept o (.inr (Nat.zero_le _)), a2.map (fun q h => HQ.out q W W' 0 0 h o (.inr rfl))⟩, a3.kept o (.inr (Nat.zero_le _)), a4.kept o (.inr (Nat.zero_le _)), o.heap a5 (.inr (Nat.zero_le _)), o.heap a6 (.inr (Nat.zero_le _))⟩
    case hz1 =>
      exact ⟨Nat.zero_le _, ⟨-1, HX1.out.kept ho2 (.inr (Nat.zero_le _)), .inl ⟨rfl, (fun j hj => by omega), HQ.out 0 W1 W2 0 0 (HQ.out 0 w W1 0 0 HI.out HO1.out (.inr rfl)) ho2 (.inr rfl)⟩⟩, HY1.out.kept ho2 (.inr (Nat.zero_le _)), HZ1.out.kept ho2 (.inr (Nat.zero_le _)), hd2, hl2⟩
    case he1 =>
      rintro p W S' ⟨a0, ⟨v, a1, a2⟩, a3, a4, a5, a6⟩ hS hn
      obtain ⟨q, hIq⟩ := a2.some
      obtain ⟨r, b1, b2, b3, b4⟩ := HM.out q W hIq
      have e := hS.only (b1.free c HC.out)
      rw [b2] at e
      rw [e] at hn
      refine ⟨⟨v, a1, a2.to_end a0 ?_, a3⟩, a5, a6⟩
      rcases nxr_cases S (64 * n) p with ⟨_, e2⟩ | ⟨k, e1, _⟩
      · exact e2
      · omega
    case hy1 =>
      rintro p W S' k ⟨a0, ⟨v, a1, a2⟩, a3, a4, a5, a6⟩ hS hn
      obtain ⟨q, hIq⟩ := a2.some
      obtain ⟨r, b1, b2, b3, b4⟩ := HM.out q W hIq
      have e := hS.only (b1.free c HC.out)
      rw [b2] at e
      rw [e] at hn
      have hk : k < 64 * n ∧ p ≤ k ∧ S k = true ∧ ∀ j, p ≤ j → j < k → S j = false := by
        rcases nxr_cases S (64 * n) p with ⟨e1, _⟩ | ⟨i, e1, e2, e3, e4, e5⟩
        · omega
        · obtain rfl : k = i := by omega
          exact ⟨e2, e3 a0, e4, e5⟩
      have A := hid_mk (And.intro a1 (And.intro a3 (And.intro a4 a5)))
      have HP := hid_mk a2
      have HK := hid_mk hk
      have HL5 := hid_mk a6
      have hk0 : (0 : Int) ≤ (k : Int) := by omega
      refine round_any HR.out a6 rfl ?_
      clear a0 a1 a2 a3 a4 a5 a6 b1 b2 b3 b4 hS hn hk hIq e
      gi_wp2
      refine ⟨HL5.out, ?_⟩
      intro W3 ho3 hl3
      have HO3 := hid_mk ho3
      have HL3 := hid_mk hl3
      have hb1 := A.out.1.kept ho3 (.inl (by omega))
      have c1 := hb1.cell
      have c2 := (A.out.2.1.kept ho3 (.inl (by omega))).cell
      have f1 := hb1.frozen
      have HB1 := hid_mk hb1
      clear ho3 hl3 hb1
      rcases HP.out with ⟨rfl, p2, p3⟩ | ⟨a, rfl, p1, p2, p3, p4⟩
      · have HP2 := hid_mk p2
        have HP3 := hid_mk p3
        clear p2 p3
        gi_wp2
        refine ⟨fun _ h => (by cases h), ?_⟩
        gi_wp2
        have ho5 : Out (w.heap.size + 1) (w.heap.size + 1 + 1) W3 (W3.setCell ⟨w.heap.size + 1, 0, none⟩ (.int .i64 (k : Int))) := (Out.refl _ _ _).setCell (.inl ⟨Nat.le_refl _, Nat.lt_succ_self _⟩) _
        refine ⟨ho5.heap HL3.out (.inr (by omega)), ?_⟩
        intro W5 ho6 hl6
        refine .inl ⟨rfl, by have := HK.out.1; omega, ⟨(k : Int), (HB1.out.set _).kept ho6 (.inl (by omega)), .inr ⟨k, rfl, Nat.lt_succ_self _, HK.out.2.2.1, (fun j j1 j2 => by omega), HQ.out _ _ _ _ _ (HQ.out _ _ _ _ _ (HS.out 0 k W3 (HQ.out _ _ _ _ _ HP3.out HO3.out (.inl (by omega))) (Nat.zero_le _) (fun j _ j2 => by by_cases e : j < p; exact HP2.out j e; exact HK.out.2.2.2 j (by omega) j2)) ho5 (.inl (by omega))) ho6 (.inl (by omega))⟩⟩,
          ((A.out.2.1.kept HO3.out (.inl (by omega))).kept ho5 (.inl (by omega))).kept ho6 (.inl (by omega)), ((A.out.2.2.1.kept HO3.out (.inl (by omega))).kept ho5 (.inr (by omega))).kept ho6 (.inl (by omega)), ho6.heap (ho5.heap (HO3.out.heap A.out.2.2.2 (.inl (by omega))) (.inr (by omega))) (.inl (by omega)), hl6⟩
      · have hnx : nxr S (64 * n) (a + 1) = (k : Int) := nxr_of HK.out.1 (by have := HK.out.2.1; omega) HK.out.2.2.1 (fun j j1 j2 => by by_cases e : j < p; exact p3 j (by omega) e; exact HK.out.2.2.2 j (by omega) j2)
        obtain ⟨fn, tmps, assign, body, hy, hR⟩ := HY.out a W3 (HQ.out a W W3 _ _ p4 HO3.out (.inl (by omega))) p2 (by have := HK.out; omega)
        rw [hnx] at hy
        have HRR := hid_mk (roundIn_wide (m := 0) hR)
        have ha0 : (0 : Int) ≤ (a : Int) := by omega
        have HP3 := hid_mk p3
        have HP1 := hid_mk p1
        clear hR hnx p1 p2 p3 p4
        gi_wp2
        refine ⟨rfl, RoundIn.mono (F := Fence.wide.inRound (w.heap.size + 3 + 1)) HRR.out ?_⟩
        clear HRR hy
        rintro e W4 ⟨ho4, ⟨rfl, hI4⟩ | ⟨rfl, hx4⟩⟩
        · have hb4 := HB1.out.kept ho4 (.inr (by omega))
          have c4 := hb4.cell
          have f4 := hb4.frozen
          have HB4 := hid_mk hb4
          have HO4 := hid_mk ho4
          have HI4 := hid_mk hI4
          clear hb4 ho4 hI4 c1 c2 f1
          gi_wp2
          have ho5 : Out (w.heap.size + 1) (w.heap.size + 1 + 1) W4 (W4.setCell ⟨w.heap.size + 1, 0, none⟩ (.int .i64 (k : Int))) := (Out.refl _ _ _).setCell (.inl ⟨Nat.le_refl _, Nat.lt_succ_self _⟩) _
          refine ⟨ho5.heap (HO4.out.heap HL3.out (.inr (by omega))) (.inr (by omega)), ?_⟩
          intro W5 ho6 hl6
          refine .inl ⟨rfl, by have := HK.out.1; omega, ⟨(k : Int), (HB4.out.set _).kept ho6 (.inl (by omega)), .inr ⟨k, rfl, Nat.lt_succ_self _, HK.out.2.2.1, (fun j j1 j2 => by omega), HQ.out _ _ _ _ _ (HQ.out _ _ _ _ _ (HS.out (a + 1) k W4 HI4.out (by have := HP1.out; have := HK.out.2.1; omega) (fun j j1 j2 => by by_cases e : j < p; exact HP3.out j (by omega) e; exact HK.out.2.2.2 j (by omega) j2)) ho5 (.inl (by omega))) ho6 (.inl (by omega))⟩⟩,
            (((A.out.2.1.kept HO3.out (.inl (by omega))).kept HO4.out (.inr (by omega))).kept ho5 (.inl (by omega))).kept ho6 (.inl (by omega)), (((A.out.2.2.1.kept HO3.out (.inl (by omega))).kept HO4.out (.inr (by omega))).kept ho5 (.inr (by omega))).kept ho6 (.inl (by omega)), ho6.heap (ho5.heap (HO4.out.heap (HO3.out.heap A.out.2.2.2 (.inl (by omega))) (.inr (by omega))) (.inr (by omega))) (.inl (by omega)), hl6⟩
        · have HX4 := hid_mk hx4
          have HO4 := hid_mk ho4
          clear hx4 ho4
          gi_wp2
          refine ⟨HO4.out.heap HL3.out (.inr (by omega)), ?_⟩
          intro W5 ho6 hl6
          exact .inr ⟨rfl, HQX.out _ _ _ _ HX4.out ho6 (by omega), ho6.heap (HO4.out.heap (HO3.out.heap A.out.2.2.2 (.inl (by omega))) (.inr (by omega))) (.inl (by omega)), hl6⟩
    · rintro e W ⟨hv, ⟨a1, a2, a3⟩ | ⟨a1, a2, a3⟩⟩
      · exact ⟨hv, a2, .inl ⟨a1, a3⟩⟩
      · exact ⟨hv, a2, .inr ⟨.ret, ⟨rfl, a1⟩, a3⟩⟩
  case done =>
    rintro W W' ⟨v, d1, d2, d3⟩ ho hd
    have hb1 := d1.kept ho (.inl (by omega))
    have c1 := hb1.cell
    have c2 := (d3.kept ho (.inl (by omega))).cell
    have HD := hid_mk hd
    have HO := hid_mk ho
    have HP := hid_mk (d2.map (fun q h => HQ.out q W W' _ _ h ho (.inl (by omega))))
    clear d1 d2 d3 ho hd hb1
    rcases HP.out with ⟨rfl, p2, p3⟩ | ⟨a, rfl, p1, p2, p3, p4⟩
    · have HJ := hid_mk (HE.out 0 W' p3 (fun j _ j2 => p2 j j2))
      clear p2 p3
      gi_wp2
      refine ⟨by simp, .inl ⟨_, _, rfl, run_takeDeferred HD.out, ?_⟩⟩
      exact ⟨_, results_none rfl _ _ _, ⟨_, rfl⟩, .inl (HQJ.out _ _ _ _ HJ.out (out_putObj _ _ _) (by omega))⟩
    · have hnx : nxr S (64 * n) (a + 1) = -1 := by
        rcases nxr_cases S (64 * n) (a + 1) with ⟨e1, _⟩ | ⟨i, e1, e2, e3, e4, e5⟩
        · exact e1
        · have := p3 i (by have := e3 (by omega); omega) e2
          rw [e4] at this; cases this
      obtain ⟨fn, tmps, assign, body, hy, hR⟩ := HY.out a W' p4 p2 p1
      rw [hnx] at hy
      have HRR := hid_mk (roundIn_wide (m := 0) hR)
      have ha0 : (0 : Int) ≤ (a : Int) := by omega
      have HZ := hid_mk p3
      clear hR hnx p1 p2 p3 p4
      gi_wp2
      refine ⟨rfl, HRR.out.mono ?_⟩
      clear HRR hy
      rintro e W4 ⟨ho4, ⟨rfl, hI4⟩ | ⟨rfl, hx4⟩⟩
      · have HJ := hid_mk (HE.out _ _ hI4 (fun j j1 j2 => HZ.out j (by omega) j2))
        have HD4 := hid_mk (ho4.heap HD.out (.inr (by omega)))
        clear ho4 hI4
        gi_wp2
        refine ⟨by simp, .inl ⟨_, _, rfl, run_takeDeferred (by rw [← hs1]; exact HD4.out), ?_⟩⟩
        exact ⟨_, results_none rfl _ _ _, ⟨_, rfl⟩, .inl (HQJ.out _ _ _ _ HJ.out (out_putObj _ _ _) (by omega))⟩
      · have HJ := hid_mk hx4
        have HD4 := hid_mk (ho4.heap HD.out (.inr (by omega)))
        clear ho4 hx4
        gi_wp2
        refine ⟨by simp, .inl ⟨_, _, rfl, run_takeDeferred (by rw [← hs1]; exact HD4.out), ?_⟩⟩
        exact ⟨_, results_none rfl _ _ _, ⟨_, rfl⟩, .inr (HQX.out _ _ _ _ HJ.out (out_putObj _ _ _) (by omega))⟩
  case stop =>
    rintro c W W' ⟨rfl, hJ⟩ ho hd
    have HJ := hid_mk (HQX.out W W' _ _ hJ ho (by omega))
    have HD := hid_mk hd
    clear hJ ho hd
    gi_wp2
    refine ⟨by simp, .inl ⟨_, _, rfl, run_takeDeferred HD.out, ?_⟩⟩
    exact ⟨_, results_none rfl _ _ _, ⟨_, rfl⟩, .inr (HQX.out _ _ _ _ HJ.out (out_putObj _ _ _) (by omega))⟩
end Go.Proofs.YtjbbkeoolodeaabDoor
