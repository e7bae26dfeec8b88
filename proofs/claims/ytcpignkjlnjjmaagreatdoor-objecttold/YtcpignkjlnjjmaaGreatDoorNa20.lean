import Derived.Test.YtcpignkjlnjjmaaGreatDoorNa19
import Derived.Test.YtcpignkjlnjjmaaGreatDoorNa12
namespace Go.Proofs.YtcpignkjlnjjmaaGreatDoor
open Go.RowKit
attribute [local go_sem] Oper.semAt_some
set_option linter.unusedVariables false
set_option linter.unusedSimpArgs false

/-- a map holds one set -/
theorem MapAt.only {w : World} {lo hi b n lo' hi' : Nat} {S S' : Nat → Bool} (h : MapAt w lo hi b n S) (h' : MapAt w lo' hi' b n S') : S = S' := by
  obtain ⟨bw, cap, hb, h1, h2, h3, h4, h5, h6, h7, h8, l1, l2, l3, hr⟩ := h
  obtain ⟨bw', cap', hb', k1, k2, k3, k4, k5, k6, k7, k8, m1, m2, m3, hr'⟩ := h'
  rw [hb] at hb'
  have e : bw = bw' := by simp at hb'; exact hb'.1
  subst e
  funext j
  by_cases hj : j < n
  · have a := hr.cell (nw_lt hj)
    have b := hr'.cell (nw_lt hj)
    rw [a] at b
    simp at b
    have e1 := pk_bit S (j / 64) (j % 64)
    have e2 := pk_bit S' (j / 64) (j % 64)
    rw [show pk S (j / 64) = pk S' (j / 64) from by omega, e2, show 64 * (j / 64) + j % 64 = j from by omega, show decide (j % 64 < 64) = true from by simp; omega] at e1
    simpa using e1.symm
  · rw [h7 j (by omega), k7 j (by omega)]
theorem links_any (b : Nat) (c : Int) (w : World) :
    Calls Tryz.prog 116 #[.pointer (some ⟨b, 0, none⟩), .int .i64 c] w fun e w' => e = .returned (.func (.func 117) #[] #[.pointer (some ⟨w.heap.size, 0, none⟩), .pointer (some ⟨w.heap.size + 1, 0, none⟩)]) ∧
      w' = (w.alloc (.cells #[.pointer (some ⟨b, 0, none⟩)] 49)).alloc (.cells #[.int .i64 c] 3) := by
  go_enter Tryz.func116, Tryz.ntmps116
  go_wp2
  go_ret
  exact ⟨rfl, rfl⟩
/-- at p: the last number that has come, and what is still to be told of it -/
def Pend (S : Nat → Bool) (I : Nat → World → Prop) (p : Nat) (v : Int) (W : World) : Prop :=
  (v = -1 ∧ (∀ j, j < p → S j = false) ∧ I 0 W) ∨ ∃ a : Nat, v = a ∧ a < p ∧ S a = true ∧ (∀ j, a < j → j < p → S j = false) ∧ I a W
theorem Pend.some {S : Nat → Bool} {I : Nat → World → Prop} {p : Nat} {v : Int} {W : World} (h : Pend S I p v W) : ∃ q, I q W := by
  rcases h with ⟨_, _, h⟩ | ⟨a, _, _, _, _, h⟩
  · exact ⟨_, h⟩
  · exact ⟨_, h⟩
theorem Pend.map {S : Nat → Bool} {I : Nat → World → Prop} {p : Nat} {v : Int} {W W' : World} (h : Pend S I p v W) (f : ∀ q, I q W → I q W') : Pend S I p v W' := by
  rcases h with ⟨a, b, h⟩ | ⟨a, x1, x2, x3, x4, h⟩
  · exact .inl ⟨a, b, f _ h⟩
  · exact .inr ⟨a, x1, x2, x3, x4, f _ h⟩
theorem Pend.to_end {S : Nat → Bool} {I : Nat → World → Prop} {p N : Nat} {v : Int} {W : World} (h : Pend S I p v W) (hp : p ≤ N) (hz : ∀ j, p ≤ j → j < N → S j = false) : Pend S I N v W := by
  rcases h with ⟨a, b, h⟩ | ⟨a, x1, x2, x3, x4, h⟩
  · exact .inl ⟨a, (fun j hj => by by_cases e : j < p; exact b j e; exact hz j (by omega) hj), h⟩
  · exact .inr ⟨a, x1, by omega, x3, (fun j j1 j2 => by by_cases e : j < p; exact x4 j j1 e; exact hz j (by omega) j2), h⟩
theorem nxr_of {S : Nat → Bool} {N a k : Nat} (hk : k < N) (ha : a ≤ k) (hS : S k = true) (hz : ∀ j, a ≤ j → j < k → S j = false) : nxr S N a = (k : Int) := by
  have := nx_eq S N a k ha (by omega) hz (fun _ => hS)
  unfold nxr
  rw [this, if_pos hk]
set_option maxRecDepth 100000 in
set_option maxHeartbeats 4000000 in
theorem links_yield {lo hi n cap g gc l c : Nat} {s : Nat → Nat} {S : Nat → Bool} (hc : c < 8) (I : Nat → World → Prop) (J Jx : World → Prop) {w : World}
    (hm : ∀ p w, I p w → ∃ r, RawAt w lo hi s n cap r ∧ r.F c = S ∧ Box w g 49 (.pointer (some ⟨s 14, 0, none⟩)) ∧ Box w gc 3 (.int .i64 (c : Int)))
    (hq : ∀ p w1 w2 x y, I p w1 → Out x y w1 w2 → (w.heap.size ≤ x ∨ y = 0) → I p w2)
    (hs : ∀ p q w1, I p w1 → p ≤ q → (∀ j, p ≤ j → j < q → S j = false) → I q w1)
    (hqJ : ∀ w1 w2 x y, J w1 → Out x y w1 w2 → w.heap.size ≤ x → J w2) (hqX : ∀ w1 w2 x y, Jx w1 → Out x y w1 w2 → w.heap.size ≤ x → Jx w2)
    (hy : ∀ (a : Nat) w1, I a w1 → S a = true → a < 64 * n → YieldAt Fence.wide 0 Tryz.prog l #[.int .i64 (a : Int), .int .i64 (nxr S (64 * n) (a + 1))] w1 fun e w' => Out 0 w.heap.size w1 w' ∧ ((e = .returned (.bool true) ∧ I (a + 1) w') ∨ (e = .returned (.bool false) ∧ Jx w')))
    (he : ∀ p w1, I p w1 → (∀ j, p ≤ j → j < 64 * n → S j = false) → J w1) (h0 : I 0 w) :
    Calls Tryz.prog 117 #[.func (.yield l) #[] #[], .pointer (some ⟨g, 0, none⟩), .pointer (some ⟨gc, 0, none⟩)] w fun e w' => (∃ v, e = .returned v) ∧ (J w' ∨ Jx w') := by
  obtain ⟨r0, hr0, _, hb0, hb1⟩ := hm 0 w h0
  have hW0 : Out 0 0 w ((w.alloc (.cells #[.func (.yield l) #[] #[]] 53)).alloc (.cells #[.int .i64 (-1)] 3)) := ((Out.refl 0 0 w).alloc _).alloc _
  have hr1 := hr0.quiet hW0
  have c0 := (hb0.kept hW0 (.inr (Nat.zero_le _))).cell
  have c1 := (hb1.kept hW0 (.inr (Nat.zero_le _))).cell
  have cF := hr1.cellF hc
  have HM := hid_mk hm
  have HQ := hid_mk hq
  have HS := hid_mk hs
  have HQJ := hid_mk hqJ
  have HQX := hid_mk hqX
  have HY := hid_mk hy
  have HE := hid_mk he
  have HI := hid_mk h0
  have HG : Hid (g < w.heap.size ∧ gc < w.heap.size) := ⟨hb0.lt, hb1.lt⟩
  have HT : Hid (hi ≤ w.heap.size ∧ 4 ≤ w.heap.size) := ⟨hr0.top, hr0.tab.lt⟩
  have HC := hid_mk hc
  have k0 : (0 : Int) ≤ (c : Int) := by omega
  have k1 : (c : Int) < 8 := by omega
  clear hm hq hs hy he h0 hb0 hb1 hr0 hr1 hqJ hqX hW0 hc
  refine (callsIn_wide (n := 0)).1 ?_
  refine callsIn_of_wp_marks Tryz.func117 rfl trivial ?_ rfl
  simp only [Tryz.ntmps117, List.size_toArray, List.length_cons, List.length_nil, Nat.reduceAdd, Nat.reduceSub, Array.replicate_succ, Array.replicate_zero, List.push_toArray, List.append_toArray, List.nil_append, List.cons_append]
  gi_wp2_with fail
  refine wpIn_only ?_
  go_region_held3 (fun w' => w'.cell? ⟨g, 0, none⟩ = some (.pointer (some ⟨s 14, 0, none⟩)) ∧ w'.cell? ⟨gc, 0, none⟩ = some (.int .i64 (c : Int)) ∧ w'.cell? ⟨s 14, 4 + c, none⟩ = some (.pointer (some ⟨s c + 1, 0, none⟩))) (go_keep)
    (first | (go_at_call 85; refine (ball_any _ _).mono ?_; rintro e w1 ⟨rfl, rfl⟩))
  obtain ⟨W1, hW1⟩ : ∃ W1, (((w.alloc (.cells #[.func (.yield l) #[] #[]] 53)).alloc (.cells #[.int .i64 (-1)] 3)).alloc (.cells #[.pointer (some ⟨s c + 1, 0, none⟩)] 82)).drew = W1 := ⟨_, rfl⟩
  have hs1 : W1.heap.size = w.heap.size + 3 := by rw [← hW1]; simp
  have ho1 : Out 0 0 w W1 := by rw [← hW1]; exact ((((Out.refl 0 0 w).alloc _).alloc _).alloc _).drew
  have hy1 : Box W1 w.heap.size 53 (.func (.yield l) #[] #[]) := by rw [← hW1]; exact Box.kept (w := ((w.alloc (.cells #[.func (.yield l) #[] #[]] 53)).alloc (.cells #[.int .i64 (-1)] 3))) two_first (((Out.refl 0 0 _).alloc _).drew) (.inr (Nat.zero_le _))
  have hx1 : Box W1 (w.heap.size + 1) 3 (.int .i64 (-1)) := by rw [← hW1]; exact Box.kept (w := ((w.alloc (.cells #[.func (.yield l) #[] #[]] 53)).alloc (.cells #[.int .i64 (-1)] 3))) (heap_alloc2_new _ _ _) (((Out.refl 0 0 _).alloc _).drew) (.inr (Nat.zero_le _))
  have hz1 : Box W1 (w.heap.size + 1 + 1) 82 (.pointer (some ⟨s c + 1, 0, none⟩)) := by
    rw [← hW1]
    have := heap_alloc_new ((w.alloc (.cells #[.func (.yield l) #[] #[]] 53)).alloc (.cells #[.int .i64 (-1)] 3)) (.cells #[.pointer (some ⟨s c + 1, 0, none⟩)] 82)
    rw [World.size_alloc, World.size_alloc] at this
    exact this
  rw [hW1]
  clear hW1
  have HO1 := hid_mk ho1
  have HY1 := hid_mk hy1
  have HX1 := hid_mk hx1
  have HZ1 := hid_mk hz1
  clear ho1 hy1 hx1 hz1 c0 c1 cF
  simp only [onlyN]
  gi_wp2_with fail
  refine range_any (gf := 97) (lb := #[.pointer (some ⟨w.heap.size + 1 + 1, 0, none⟩)]) rfl (enters_of Tryz.func97 (by kernel_rfl) rfl)
    (fun W => ∃ v : Int, Box W (w.heap.size + 1) 3 (.int .i64 v) ∧ Pend S I (64 * n) v W ∧ Box W w.heap.size 53 (.func (.yield l) #[] #[])) (fun c W => c = .ret ∧ Jx W) ?H ?done ?stop
  case H =>
    intro rec hrec W2 hW2
    rw [hs1]
    have HR := hid_mk hrec
    have ho2 : Out 0 0 W1 W2 := by rw [hW2]; exact ((Out.refl 0 0 W1).alloc _).alloc _
    have hd2 : W2.heap[w.heap.size + 3]? = some (.deferred (some [])) := by rw [hW2, ← hs1]; exact two_first
    have hl2 : W2.heap[w.heap.size + 3 + 1]? = some (.loop (rec .ready none)) := by rw [hW2, ← hs1]; exact heap_alloc2_new _ _ _
    refine (bAll_yield (lo := s c) (hi := s c + 2) (b := s c + 1) (n := 64 * n) (g := w.heap.size + 1 + 1) (l := w.heap.size + 3 + 1)
      (fun p W => p ≤ 64 * n ∧ (∃ v : Int, Box W (w.heap.size + 1) 3 (.int .i64 v) ∧ Pend S I p v W) ∧ Box W w.heap.size 53 (.func (.yield l) #[] #[]) ∧ Box W (w.heap.size + 1 + 1) 82 (.pointer (some ⟨s c + 1, 0, none⟩)) ∧ W.heap[w.heap.size + 3]? = some (.deferred (some [])) ∧ W.heap[w.heap.size + 3 + 1]? = some (.loop (rec .ready none)))
      (fun W => (∃ v : Int, Box W (w.heap.size + 1) 3 (.int .i64 v) ∧ Pend S I (64 * n) v W ∧ Box W w.heap.size 53 (.func (.yield l) #[] #[])) ∧ W.heap[w.heap.size + 3]? = some (.deferred (some [])) ∧ W.heap[w.heap.size + 3 + 1]? = some (.loop (rec .ready none)))
      (fun W => Jx W ∧ W.heap[w.heap.size + 3]? = some (.deferred (some [])) ∧ W.heap[w.heap.size + 3 + 1]? = some (.loop (rec .done (some .ret)))) ?hm1 ?hq1 ?hy1 ?he1 (w := W2) ?hz1).mono ?_
    case hm1 =>
      rintro p W ⟨a0, ⟨v, a1, a2⟩, a3, a4, a5, a6⟩
      obtain ⟨q, hIq⟩ := a2.some
      obtain ⟨r, b1, b2, b3, b4⟩ := HM.out q W hIq
      exact ⟨a0, S, by rw [← b2]; exact b1.free c HC.out, a4⟩
    case hq1 =>
      rintro p W W' ⟨a0, ⟨v, a1, a2⟩, a3, a4, a5, a6⟩ o
      exact ⟨a0, ⟨v, a1.kept o (.inr (Nat.zero_le _)), a2.map (fun q h => HQ.out q W W' 0 0 h o (.inr rfl))⟩, a3.kept o (.inr (Nat.zero_le _)), a4.kept o (.inr (Nat.zero_le _)), o.heap a5 (.inr (Nat.zero_le _)), o.heap a6 (.inr (Nat.zero_le _))⟩
    case hz1 =>
      exact ⟨Nat.zero_le _, ⟨-1, HX1.out.kept ho2 (.inr (Nat.zero_le _)), .inl ⟨rfl, (fun j hj => by omega), HQ.out 0 W1 W2 0 0 (HQ.out 0 w W1 0 0 HI.out HO1.out (.inr rfl)) ho2 (.inr rfl)⟩⟩, HY1.out.kept ho2 (.inr (Nat.zero_le _)), HZ1.out.kept ho2 (.inr (Nat.zero_le _)), hd2, hl2⟩
    case he1 =>
      rintro p W S' ⟨a0, ⟨v, a1, a2⟩, a3, a4, a5, a6⟩ hS hn
      obtain ⟨q, hIq⟩ := a2.some
      obtain ⟨r, b1, b2, b3, b4⟩ := HM.out q W hIq
      have e := hS.only (b1.free c HC.out)
      rw [b2] at e
      rw [e] at hn
      refine ⟨⟨v, a1, a2.to_end a0 ?_, a3⟩, a5, a6⟩
      rcases nxr_cases S (64 * n) p with ⟨_, e2⟩ | ⟨k, e1, _⟩
      · exact e2
      · omega
    case hy1 =>
      rintro p W S' k ⟨a0, ⟨v, a1, a2⟩, a3, a4, a5, a6⟩ hS hn
      obtain ⟨q, hIq⟩ := a2.some
      obtain ⟨r, b1, b2, b3, b4⟩ := HM.out q W hIq
      have e := hS.only (b1.free c HC.out)
      rw [b2] at e
      rw [e] at hn
      have hk : k < 64 * n ∧ p ≤ k ∧ S k = true ∧ ∀ j, p ≤ j → j < k → S j = false := by
        rcases nxr_cases S (64 * n) p with ⟨e1, _⟩ | ⟨i, e1, e2, e3, e4, e5⟩
        · omega
        · obtain rfl : k = i := by omega
          exact ⟨e2, e3 a0, e4, e5⟩
      have A := hid_mk (And.intro a1 (And.intro a3 (And.intro a4 a5)))
      have HP := hid_mk a2
      have HK := hid_mk hk
      have HL5 := hid_mk a6
      have hk0 : (0 : Int) ≤ (k : Int) := by omega
      refine round_any HR.out a6 rfl ?_
      clear a0 a1 a2 a3 a4 a5 a6 b1 b2 b3 b4 hS hn hk hIq e
      gi_wp2
      refine ⟨HL5.out, ?_⟩
      intro W3 ho3 hl3
      have HO3 := hid_mk ho3
      have HL3 := hid_mk hl3
      have hb1 := A.out.1.kept ho3 (.inl (by omega))
      have c1 := hb1.cell
      have c2 := (A.out.2.1.kept ho3 (.inl (by omega))).cell
      have f1 := hb1.frozen
      have HB1 := hid_mk hb1
      clear ho3 hl3 hb1
      rcases HP.out with ⟨rfl, p2, p3⟩ | ⟨a, rfl, p1, p2, p3, p4⟩
      · have HP2 := hid_mk p2
        have HP3 := hid_mk p3
        clear p2 p3
        gi_wp2
        refine ⟨fun _ h => (by cases h), ?_⟩
        gi_wp2
        have ho5 : Out (w.heap.size + 1) (w.heap.size + 1 + 1) W3 (W3.setCell ⟨w.heap.size + 1, 0, none⟩ (.int .i64 (k : Int))) := (Out.refl _ _ _).setCell (.inl ⟨Nat.le_refl _, Nat.lt_succ_self _⟩) _
        refine ⟨ho5.heap HL3.out (.inr (by omega)), ?_⟩
        intro W5 ho6 hl6
        refine .inl ⟨rfl, by have := HK.out.1; omega, ⟨(k : Int), (HB1.out.set _).kept ho6 (.inl (by omega)), .inr ⟨k, rfl, Nat.lt_succ_self _, HK.out.2.2.1, (fun j j1 j2 => by omega), HQ.out _ _ _ _ _ (HQ.out _ _ _ _ _ (HS.out 0 k W3 (HQ.out _ _ _ _ _ HP3.out HO3.out (.inl (by omega))) (Nat.zero_le _) (fun j _ j2 => by by_cases e : j < p; exact HP2.out j e; exact HK.out.2.2.2 j (by omega) j2)) ho5 (.inl (by omega))) ho6 (.inl (by omega))⟩⟩,
          ((A.out.2.1.kept HO3.out (.inl (by omega))).kept ho5 (.inl (by omega))).kept ho6 (.inl (by omega)), ((A.out.2.2.1.kept HO3.out (.inl (by omega))).kept ho5 (.inr (by omega))).kept ho6 (.inl (by omega)), ho6.heap (ho5.heap (HO3.out.heap A.out.2.2.2 (.inl (by omega))) (.inr (by omega))) (.inl (by omega)), hl6⟩
      · have hnx : nxr S (64 * n) (a + 1) = (k : Int) := nxr_of HK.out.1 (by have := HK.out.2.1; omega) HK.out.2.2.1 (fun j j1 j2 => by by_cases e : j < p; exact p3 j (by omega) e; exact HK.out.2.2.2 j (by omega) j2)
        obtain ⟨fn, tmps, assign, body, hy, hR⟩ := HY.out a W3 (HQ.out a W W3 _ _ p4 HO3.out (.inl (by omega))) p2 (by have := HK.out; omega)
        rw [hnx] at hy
        have HRR := hid_mk (roundIn_wide (m := 0) hR)
        have ha0 : (0 : Int) ≤ (a : Int) := by omega
        have HP3 := hid_mk p3
        have HP1 := hid_mk p1
        clear hR hnx p1 p2 p3 p4
        gi_wp2
        refine ⟨rfl, RoundIn.mono (F := Fence.wide.inRound (w.heap.size + 3 + 1)) HRR.out ?_⟩
        clear HRR hy
        rintro e W4 ⟨ho4, ⟨rfl, hI4⟩ | ⟨rfl, hx4⟩⟩
        · have hb4 := HB1.out.kept ho4 (.inr (by omega))
          have c4 := hb4.cell
          have f4 := hb4.frozen
          have HB4 := hid_mk hb4
          have HO4 := hid_mk ho4
          have HI4 := hid_mk hI4
          clear hb4 ho4 hI4 c1 c2 f1
          gi_wp2
          have ho5 : Out (w.heap.size + 1) (w.heap.size + 1 + 1) W4 (W4.setCell ⟨w.heap.size + 1, 0, none⟩ (.int .i64 (k : Int))) := (Out.refl _ _ _).setCell (.inl ⟨Nat.le_refl _, Nat.lt_succ_self _⟩) _
          refine ⟨ho5.heap (HO4.out.heap HL3.out (.inr (by omega))) (.inr (by omega)), ?_⟩
          intro W5 ho6 hl6
          refine .inl ⟨rfl, by have := HK.out.1; omega, ⟨(k : Int), (HB4.out.set _).kept ho6 (.inl (by omega)), .inr ⟨k, rfl, Nat.lt_succ_self _, HK.out.2.2.1, (fun j j1 j2 => by omega), HQ.out _ _ _ _ _ (HQ.out _ _ _ _ _ (HS.out (a + 1) k W4 HI4.out (by have := HP1.out; have := HK.out.2.1; omega) (fun j j1 j2 => by by_cases e : j < p; exact HP3.out j (by omega) e; exact HK.out.2.2.2 j (by omega) j2)) ho5 (.inl (by omega))) ho6 (.inl (by omega))⟩⟩,
            (((A.out.2.1.kept HO3.out (.inl (by omega))).kept HO4.out (.inr (by omega))).kept ho5 (.inl (by omega))).kept ho6 (.inl (by omega)), (((A.out.2.2.1.kept HO3.out (.inl (by omega))).kept HO4.out (.inr (by omega))).kept ho5 (.inr (by omega))).kept ho6 (.inl (by omega)), ho6.heap (ho5.heap (HO4.out.heap (HO3.out.heap A.out.2.2.2 (.inl (by omega))) (.inr (by omega))) (.inr (by omega))) (.inl (by omega)), hl6⟩
        · have HX4 := hid_mk hx4
          have HO4 := hid_mk ho4
          clear hx4 ho4
          gi_wp2
          refine ⟨HO4.out.heap HL3.out (.inr (by omega)), ?_⟩
          intro W5 ho6 hl6
          exact .inr ⟨rfl, HQX.out _ _ _ _ HX4.out ho6 (by omega), ho6.heap (HO4.out.heap (HO3.out.heap A.out.2.2.2 (.inl (by omega))) (.inr (by omega))) (.inl (by omega)), hl6⟩
    · rintro e W ⟨hv, ⟨a1, a2, a3⟩ | ⟨a1, a2, a3⟩⟩
      · exact ⟨hv, a2, .inl ⟨a1, a3⟩⟩
      · exact ⟨hv, a2, .inr ⟨.ret, ⟨rfl, a1⟩, a3⟩⟩
  case done =>
    rintro W W' ⟨v, d1, d2, d3⟩ ho hd
    have hb1 := d1.kept ho (.inl (by omega))
    have c1 := hb1.cell
    have c2 := (d3.kept ho (.inl (by omega))).cell
    have HD := hid_mk hd
    have HO := hid_mk ho
    have HP := hid_mk (d2.map (fun q h => HQ.out q W W' _ _ h ho (.inl (by omega))))
    clear d1 d2 d3 ho hd hb1
    rcases HP.out with ⟨rfl, p2, p3⟩ | ⟨a, rfl, p1, p2, p3, p4⟩
    · have HJ := hid_mk (HE.out 0 W' p3 (fun j _ j2 => p2 j j2))
      clear p2 p3
      gi_wp2
      refine ⟨by simp, .inl ⟨_, _, rfl, run_takeDeferred HD.out, ?_⟩⟩
      exact ⟨_, results_none rfl _ _ _, ⟨_, rfl⟩, .inl (HQJ.out _ _ _ _ HJ.out (out_putObj _ _ _) (by omega))⟩
    · have hnx : nxr S (64 * n) (a + 1) = -1 := by
        rcases nxr_cases S (64 * n) (a + 1) with ⟨e1, _⟩ | ⟨i, e1, e2, e3, e4, e5⟩
        · exact e1
        · have := p3 i (by have := e3 (by omega); omega) e2
          rw [e4] at this; cases this
      obtain ⟨fn, tmps, assign, body, hy, hR⟩ := HY.out a W' p4 p2 p1
      rw [hnx] at hy
      have HRR := hid_mk (roundIn_wide (m := 0) hR)
      have ha0 : (0 : Int) ≤ (a : Int) := by omega
      have HZ := hid_mk p3
      clear hR hnx p1 p2 p3 p4
      gi_wp2
      refine ⟨rfl, HRR.out.mono ?_⟩
      clear HRR hy
      rintro e W4 ⟨ho4, ⟨rfl, hI4⟩ | ⟨rfl, hx4⟩⟩
      · have HJ := hid_mk (HE.out _ _ hI4 (fun j j1 j2 => HZ.out j (by omega) j2))
        have HD4 := hid_mk (ho4.heap HD.out (.inr (by omega)))
        clear ho4 hI4
        gi_wp2
        refine ⟨by simp, .inl ⟨_, _, rfl, run_takeDeferred (by rw [← hs1]; exact HD4.out), ?_⟩⟩
        exact ⟨_, results_none rfl _ _ _, ⟨_, rfl⟩, .inl (HQJ.out _ _ _ _ HJ.out (out_putObj _ _ _) (by omega))⟩
      · have HJ := hid_mk hx4
        have HD4 := hid_mk (ho4.heap HD.out (.inr (by omega)))
        clear ho4 hx4
        gi_wp2
        refine ⟨by simp, .inl ⟨_, _, rfl, run_takeDeferred (by rw [← hs1]; exact HD4.out), ?_⟩⟩
        exact ⟨_, results_none rfl _ _ _, ⟨_, rfl⟩, .inr (HQX.out _ _ _ _ HJ.out (out_putObj _ _ _) (by omega))⟩
  case stop =>
    rintro c W W' ⟨rfl, hJ⟩ ho hd
    have HJ := hid_mk (HQX.out W W' _ _ hJ ho (by omega))
    have HD := hid_mk hd
    clear hJ ho hd
    gi_wp2
    refine ⟨by simp, .inl ⟨_, _, rfl, run_takeDeferred HD.out, ?_⟩⟩
    exact ⟨_, results_none rfl _ _ _, ⟨_, rfl⟩, .inr (HQX.out _ _ _ _ HJ.out (out_putObj _ _ _) (by omega))⟩
end Go.Proofs.YtcpignkjlnjjmaaGreatDoor
