import Derived.Test.YtjbbkeoolodeaaaGreatDoorG09
namespace Go.Proofs.YtjbbkeoolodeaaaGreatDoor
open Go.RowKit
attribute [local go_sem] Oper.semAt_some
set_option linter.unusedVariables false
set_option linter.unusedSimpArgs false

def linkR (n : Nat) (r : Raw) (c : Nat) : Nat → Int := fun i => if r.F c i then linkV (nxr (r.F c) (64 * n) (i + 1)) else r.W i
/-- those below p are written -/
def lwR (n : Nat) (r : Raw) (c p : Nat) : Nat → Int := fun i => if r.F c i = true ∧ i < p then linkV (nxr (r.F c) (64 * n) (i + 1)) else r.W i
theorem lw_zero (n : Nat) (r : Raw) (c : Nat) : lwR n r c 0 = r.W := by funext i; unfold lwR; rw [if_neg (by omega)]
theorem lw_skip {n : Nat} {r : Raw} {c p q : Nat} (h : p ≤ q) (hz : ∀ j, p ≤ j → j < q → r.F c j = false) : lwR n r c p = lwR n r c q := by
  funext i
  unfold lwR
  by_cases e : r.F c i = true ∧ i < q
  · have : i < p := by
      by_cases e2 : i < p
      · exact e2
      · have := hz i (by omega) e.2
        rw [e.1] at this; cases this
    rw [if_pos ⟨e.1, this⟩, if_pos e]
  · rw [if_neg e, if_neg (fun h' => e ⟨h'.1, by omega⟩)]
theorem lw_step {n : Nat} {r : Raw} {c a : Nat} (h : r.F c a = true) : updW (lwR n r c a) a (linkV (nxr (r.F c) (64 * n) (a + 1))) = lwR n r c (a + 1) := by
  funext i
  unfold updW lwR
  by_cases e : i = a
  · subst e; rw [if_pos rfl, if_pos ⟨h, Nat.lt_succ_self _⟩]
  · rw [if_neg e]
    by_cases e2 : r.F c i = true ∧ i < a
    · rw [if_pos e2, if_pos ⟨e2.1, by omega⟩]
    · rw [if_neg e2, if_neg (fun h' => e2 ⟨h'.1, by omega⟩)]
theorem lw_end {n : Nat} {r : Raw} {c : Nat} (hz : ∀ j, 64 * n ≤ j → r.F c j = false) : lwR n r c (64 * n) = linkR n r c := by
  funext i
  unfold lwR linkR
  cases e : r.F c i with
  | false => simp
  | true =>
    have : i < 64 * n := by
      by_cases e2 : i < 64 * n
      · exact e2
      · rw [hz i (by omega)] at e; cases e
    simp [this]
theorem link_at (v : Int) (w : World) : Calls Tryz.prog 122 #[.int .i64 v] w fun e w' => e = .returned (.int .i64 (linkV v)) ∧ w' = w := link_any v w
set_option maxRecDepth 100000 in
set_option maxHeartbeats 4000000 in
theorem spLink_any {w : World} {lo hi n cap : Nat} {s : Nat → Nat} {r : Raw} (h : RawAt w lo hi s n cap r) {c : Nat} (hc : c < 8) :
    Calls Tryz.prog 161 #[.pointer (some ⟨s 14, 0, none⟩), .int .i64 (c : Int)] w fun e w' => (∃ v, e = .returned v) ∧ RawAt w' lo hi s n cap { r with W := linkR n r c } ∧ Out lo hi w w' := by
  have HR0 := hid_mk h
  have HC := hid_mk hc
  have HZ := hid_mk (h.free c hc).bounds
  have h11 : s 11 < hi := by have := (h.inn 11 (by omega)).2; simp [ln] at this; omega
  have h14 : s 14 < hi ∧ s 11 ≠ s 14 := by have a := (h.inn 14 (by omega)).2; have b := h.apart 11 14 (by omega) (by omega) (by omega); simp [ln] at a b; omega
  have HT : Hid (hi ≤ w.heap.size ∧ 4 ≤ w.heap.size ∧ s 11 < hi ∧ s 14 < hi ∧ s 11 ≠ s 14 ∧ 4 ≤ lo ∧ n ≤ 4096) := ⟨h.top, h.tab.lt, h11, h14.1, h14.2, h.glob, h.n2⟩
  have HL := hid_mk (fun w => links_any (s 14) (c : Int) w)
  clear h hc h11 h14
  refine (callsIn_wide (n := 0)).1 ?_
  refine callsIn_of_wp_marks Tryz.func161 rfl trivial ?_ rfl
  simp only [Tryz.ntmps161, List.size_toArray, List.length_cons, List.length_nil, Nat.reduceAdd, Nat.reduceSub, Array.replicate_succ, Array.replicate_zero, List.push_toArray, List.append_toArray, List.nil_append, List.cons_append]
  gi_wp2_with (refine ⟨trivial, rfl, ?_⟩; gi_at_call 121; refine (callsIn_wide.2 (HL.out _)).mono ?_; rintro e w1 ⟨rfl, rfl⟩)
  obtain ⟨W1, hW1⟩ : ∃ W1, ((w.alloc (.cells #[.pointer (some ⟨s 14, 0, none⟩)] 34)).alloc (.cells #[.pointer (some ⟨s 14, 0, none⟩)] 34)).alloc (.cells #[.int .i64 (c : Int)] 3) = W1 := ⟨_, rfl⟩
  have hs1 : W1.heap.size = w.heap.size + 3 := by rw [← hW1]; simp
  have ho1 : Out 0 0 w W1 := by rw [← hW1]; exact ((((Out.refl 0 0 w).alloc _).alloc _).alloc _)
  have hy1 : Box W1 w.heap.size 34 (.pointer (some ⟨s 14, 0, none⟩)) := by rw [← hW1]; exact Box.alloc (w := (w.alloc (.cells #[.pointer (some ⟨s 14, 0, none⟩)] 34)).alloc (.cells #[.pointer (some ⟨s 14, 0, none⟩)] 34)) two_first _
  have hx1 : Box W1 (w.heap.size + 1) 34 (.pointer (some ⟨s 14, 0, none⟩)) := by rw [← hW1]; exact Box.alloc (w := (w.alloc (.cells #[.pointer (some ⟨s 14, 0, none⟩)] 34)).alloc (.cells #[.pointer (some ⟨s 14, 0, none⟩)] 34)) (heap_alloc2_new _ _ _) _
  have hz1 : Box W1 (w.heap.size + 1 + 1) 3 (.int .i64 (c : Int)) := by
    rw [← hW1]
    have := heap_alloc_new ((w.alloc (.cells #[.pointer (some ⟨s 14, 0, none⟩)] 34)).alloc (.cells #[.pointer (some ⟨s 14, 0, none⟩)] 34)) (.cells #[.int .i64 (c : Int)] 3)
    rw [World.size_alloc, World.size_alloc] at this
    exact this
  rw [hW1]
  clear hW1
  have HO1 := hid_mk ho1
  have HY1 := hid_mk hy1
  have HX1 := hid_mk hx1
  have HZ1 := hid_mk hz1
  clear ho1 hy1 hx1 hz1
  refine range_any (gf := 153) (lb := #[.pointer (some ⟨w.heap.size + 1, 0, none⟩), .pointer (some ⟨w.heap.size + 1 + 1, 0, none⟩)]) rfl (enters_of Tryz.func153 (by kernel_rfl) rfl)
    (fun W => RawAt W lo hi s n cap { r with W := lwR n r c (64 * n) } ∧ Out lo hi w W) (fun c W => False) ?H ?done ?stop
  case H =>
    intro rec hrec W2 hW2
    rw [hs1]
    have HR := hid_mk hrec
    have ho2 : Out 0 0 W1 W2 := by rw [hW2]; exact ((Out.refl 0 0 W1).alloc _).alloc _
    have hs2 : W2.heap.size = w.heap.size + 5 := by rw [hW2]; simp [hs1]
    have hd2 : W2.heap[w.heap.size + 3]? = some (.deferred (some [])) := by rw [hW2, ← hs1]; exact two_first
    have hl2 : W2.heap[w.heap.size + 3 + 1]? = some (.loop (rec .ready none)) := by rw [hW2, ← hs1]; exact heap_alloc2_new _ _ _
    refine (links_yield (lo := lo) (hi := hi) (n := n) (cap := cap) (s := s) (S := r.F c) (c := c) (g := w.heap.size + 1) (gc := w.heap.size + 1 + 1) (l := w.heap.size + 3 + 1) HC.out
      (fun p W => RawAt W lo hi s n cap { r with W := lwR n r c p } ∧ Box W w.heap.size 34 (.pointer (some ⟨s 14, 0, none⟩)) ∧ Box W (w.heap.size + 1) 34 (.pointer (some ⟨s 14, 0, none⟩)) ∧ Box W (w.heap.size + 1 + 1) 3 (.int .i64 (c : Int)) ∧ W.heap[w.heap.size + 3]? = some (.deferred (some [])) ∧ W.heap[w.heap.size + 3 + 1]? = some (.loop (rec .ready none)) ∧ Out lo hi w W)
      (fun W => RawAt W lo hi s n cap { r with W := lwR n r c (64 * n) } ∧ W.heap[w.heap.size + 3]? = some (.deferred (some [])) ∧ W.heap[w.heap.size + 3 + 1]? = some (.loop (rec .ready none)) ∧ Out lo hi w W)
      (fun W => False) (w := W2) ?hm1 ?hq1 ?hs1 ?hqj1 ?hqx1 ?hy1 ?he1 ?hz1).mono ?_
    case hm1 =>
      rintro p W ⟨a1, a2, a3, a4, a5, a6, a7⟩
      exact ⟨_, a1, rfl, a3, a4⟩
    case hq1 =>
      rintro p W W' x y ⟨a1, a2, a3, a4, a5, a6, a7⟩ o hx
      exact ⟨a1.kept o (by have := HT.out; omega) (by have := HT.out; omega), a2.kept o (by omega), a3.kept o (by omega), a4.kept o (by omega), o.heap a5 (by omega), o.heap a6 (by omega), out_far a7 o (by omega)⟩
    case hs1 =>
      rintro p q W ⟨a1, a2, a3, a4, a5, a6, a7⟩ hpq hz
      exact ⟨by rw [← lw_skip hpq hz]; exact a1, a2, a3, a4, a5, a6, a7⟩
    case hqj1 =>
      rintro W W' x y ⟨a1, a2, a3, a4⟩ o hx
      exact ⟨a1.kept o (by have := HT.out; omega) (by have := HT.out; omega), o.heap a2 (by omega), o.heap a3 (by omega), out_far a4 o (by omega)⟩
    case hqx1 =>
      rintro W W' x y h _ _
      exact h
    case he1 =>
      rintro p W ⟨a1, a2, a3, a4, a5, a6, a7⟩ hz
      refine ⟨?_, a5, a6, a7⟩
      by_cases e : p ≤ 64 * n
      · rw [← lw_skip e hz]; exact a1
      · rw [lw_skip (p := 64 * n) (q := p) (by omega) (fun j j1 _ => HZ.out.2.2.2.2.2 j j1)]; exact a1
    case hz1 =>
      have := (HR0.out.quiet (HO1.out.trans ho2))
      exact ⟨by rw [lw_zero]; exact this, HY1.out.kept ho2 (.inr (Nat.zero_le _)), HX1.out.kept ho2 (.inr (Nat.zero_le _)), HZ1.out.kept ho2 (.inr (Nat.zero_le _)), hd2, hl2, (HO1.out.trans ho2).any _ _⟩
    case hy1 =>
      rintro a W ⟨a1, a2, a3, a4, a5, a6, a7⟩ hSa haN
      have A := hid_mk (And.intro a1 (And.intro a2 (And.intro a3 (And.intro a4 (And.intro a5 a7)))))
      have HSa := hid_mk hSa
      have HaN := hid_mk haN
      have HL5 := hid_mk a6
      have k0 : (0 : Int) ≤ (a : Int) := by omega
      have k1 : (a : Int) < ((64 * n : Nat) : Int) := by omega
      have k2 : ((64 * n : Nat) : Int) ≤ 262144 := by have := HT.out; omega
      have k3 : (a : Int) < 64 * (n : Int) := by omega
      refine round_any HR.out a6 rfl ?_
      clear a1 a2 a3 a4 a5 a6 a7 hSa haN
      gi_wp2
      refine ⟨HL5.out, ?_⟩
      intro W3 ho3 hl3
      have HO3 := hid_mk ho3
      have HL3 := hid_mk hl3
      have c0 := (A.out.2.1.kept ho3 (.inl (by omega))).cell
      have hr3 := A.out.1.kept ho3 (.inl (by have := HT.out; omega)) (.inl (by have := HT.out; omega))
      have c1 := hr3.cells.1
      have d0 := hr3.words.cell HaN.out
      have d1 := hr3.words.frozen a
      have HR3 := hid_mk hr3
      have ho9 : ∀ v, Out (s 11) (s 11 + 1) W3.drew (W3.drew.setCell ⟨s 11, a, none⟩ v) := fun v => (Out.refl _ _ _).setCell (.inl ⟨Nat.le_refl _, Nat.lt_succ_self _⟩) _
      have n1 : s 14 < s 11 ∨ s 11 + 1 ≤ s 14 := by have := HT.out; omega
      have n2 : w.heap.size < s 11 ∨ s 11 + 1 ≤ w.heap.size := by have := HT.out; omega
      clear ho3 hl3 hr3
      gi_wp2_with fail
      refine region_roundN (S := fun w' => w'.cell? ⟨w.heap.size, 0, none⟩ = some (.pointer (some ⟨s 14, 0, none⟩)) ∧ w'.cell? ⟨s 14, 0, none⟩ = some (.slice (some ⟨s 11, 0, none⟩) (64 * n) cap)) (by kernel_rfl) (by kernel_rfl) ?hS1 (fun hHeld => ?rest1)
      case hS1 => exact ⟨c0, c1⟩
      refine wpAnyH_take (i := 0) (v := ?v2) rfl (by kernel_rfl) (by kernel_rfl) (by kernel_rfl) (fun _ _ _ h => h) (Or.inl ⟨by rfl, ?hy2⟩) (by assumption) ?rest2
      case hy2 => (intro w hSw; (try dsimp only at hSw); simp only [List.getElem_toArray, List.getElem_cons_zero, List.getElem_cons_succ]; go_simp; (try with_reducible rfl))
      (try simp only [Act.put, List.getElem_toArray, List.getElem_cons_zero, List.getElem_cons_succ, List.setIfInBounds_toArray, List.set_cons_zero, List.set_cons_succ])
      refine wpAnyH_take (i := 1) (v := ?v3) rfl (by kernel_rfl) (by kernel_rfl) (by kernel_rfl) (fun _ _ _ h => h) (Or.inl ⟨by rfl, ?hy3⟩) (by assumption) ?rest3
      case hy3 => (intro w hSw; (try dsimp only at hSw); simp only [List.getElem_toArray, List.getElem_cons_zero, List.getElem_cons_succ]; go_simp; (try with_reducible rfl))
      (try simp only [Act.put, List.getElem_toArray, List.getElem_cons_zero, List.getElem_cons_succ, List.setIfInBounds_toArray, List.set_cons_zero, List.set_cons_succ])
      refine wpAnyH_take (i := 2) (v := ?v4) rfl (by kernel_rfl) (by kernel_rfl) (by kernel_rfl) (fun _ _ _ h => h) (Or.inl ⟨by rfl, ?hy4⟩) (by assumption) ?rest4
      case hy4 => (intro w hSw; (try dsimp only at hSw); simp only [List.getElem_toArray, List.getElem_cons_zero, List.getElem_cons_succ]; go_simp; (try with_reducible rfl))
      (try simp only [Act.put, List.getElem_toArray, List.getElem_cons_zero, List.getElem_cons_succ, List.setIfInBounds_toArray, List.set_cons_zero, List.set_cons_succ])
      refine wpAnyH_take (i := 3) (v := ?v5) rfl (by kernel_rfl) (by kernel_rfl) (by kernel_rfl) (fun _ _ _ h => h) (Or.inl ⟨by rfl, ?hy5⟩) (by assumption) ?rest5
      case hy5 => (intro w hSw; (try dsimp only at hSw); simp only [List.getElem_toArray, List.getElem_cons_zero, List.getElem_cons_succ]; go_simp; (try with_reducible rfl))
      (try simp only [Act.put, List.getElem_toArray, List.getElem_cons_zero, List.getElem_cons_succ, List.setIfInBounds_toArray, List.set_cons_zero, List.set_cons_succ])
      refine wpAnyH_take (i := 4) (v := ?v6) rfl (by kernel_rfl) (by kernel_rfl) (by kernel_rfl) (fun _ _ _ h => h) (Or.inl ⟨by rfl, ?hy6⟩) (by assumption) ?rest6
      case hy6 => (intro w hSw; (try dsimp only at hSw); simp only [List.getElem_toArray, List.getElem_cons_zero, List.getElem_cons_succ]; go_simp; (try with_reducible rfl))
      (try simp only [Act.put, List.getElem_toArray, List.getElem_cons_zero, List.getElem_cons_succ, List.setIfInBounds_toArray, List.set_cons_zero, List.set_cons_succ])
      refine wpAnyH_take (i := 5) (v := ?v7) rfl (by kernel_rfl) (by kernel_rfl) (by kernel_rfl) (fun _ _ _ h => h) (Or.inl ⟨by rfl, ?hy7⟩) (by assumption) ?rest7
      case hy7 => (intro w hSw; (try dsimp only at hSw); simp only [List.getElem_toArray, List.getElem_cons_zero, List.getElem_cons_succ]; go_simp; (try with_reducible rfl))
      (try simp only [Act.put, List.getElem_toArray, List.getElem_cons_zero, List.getElem_cons_succ, List.setIfInBounds_toArray, List.set_cons_zero, List.set_cons_succ])
      refine wpAnyH_ready (rs := [6]) (by kernel_rfl) (by simp) ?_
      refine AllReadyH.cons rfl (fun KK hK => ?_) AllReadyH.nil
      simp only [List.getElem_toArray, List.getElem_cons_zero, List.getElem_cons_succ]
      go_simp
      refine (link_at (nxr (r.F c) (64 * n) (a + 1)) _).mono ?_
      rintro e w5 ⟨rfl, rfl⟩
      refine hK.out _ _ ?hS8 (fun hHeld2 => ?rest8)
      case hS8 => exact hHeld
      clear hK KK
      (try clear hHeld)
      have hHeld := hHeld2
      clear hHeld2
      (try simp only [Act.put, List.getElem_toArray, List.getElem_cons_zero, List.getElem_cons_succ, List.setIfInBounds_toArray, List.set_cons_zero, List.set_cons_succ])
      refine wpAnyH_take (i := 7) (v := ?v9) rfl (by kernel_rfl) (by kernel_rfl) (by kernel_rfl) (fun _ _ _ h => h) (Or.inl ⟨by rfl, ?hy9⟩) (by assumption) ?rest9
      case hy9 => (intro w hSw; (try dsimp only at hSw); simp only [List.getElem_toArray, List.getElem_cons_zero, List.getElem_cons_succ]; go_simp; (try with_reducible rfl))
      (try simp only [Act.put, List.getElem_toArray, List.getElem_cons_zero, List.getElem_cons_succ, List.setIfInBounds_toArray, List.set_cons_zero, List.set_cons_succ])
      refine wpAnyH_ready (rs := [8]) (by kernel_rfl) (by simp) ?_
      refine AllReadyH.cons rfl (fun KK hK => ?_) AllReadyH.nil
      simp only [List.getElem_toArray, List.getElem_cons_zero, List.getElem_cons_succ]
      go_simp
      refine hK.out _ _ ?hS10 (fun hHeld2 => ?rest10)
      case hS10 => exact ⟨(ho9 _).cell hHeld.1 (by omega), (ho9 _).cell hHeld.2 (by omega)⟩
      clear hK KK
      (try clear hHeld)
      have hHeld := hHeld2
      clear hHeld2
      (try simp only [Act.put, List.getElem_toArray, List.getElem_cons_zero, List.getElem_cons_succ, List.setIfInBounds_toArray, List.set_cons_zero, List.set_cons_succ])
      refine wpAnyH_done (by kernel_rfl) ?_ _
      clear hHeld
      simp only [noOut, onlyN]
      gi_wp2
      have hp := HR3.out.poke a (linkV (nxr (r.F c) (64 * n) (a + 1)))
      have ho5 := hp.2.drew
      refine ⟨ho5.heap HL3.out (.inr (by have := HT.out; omega)), ?_⟩
      intro W5 ho6 hl6
      have hr5 : RawAt W5 lo hi s n cap { r with W := lwR n r c (a + 1) } := by
        rw [← lw_step HSa.out]
        exact (hp.1.quiet ((Out.refl 0 0 _).drew)).kept ho6 (by have := HT.out; omega) (by have := HT.out; omega)
      have hA := A.out
      have hT := HT.out
      have ho7 := HO3.out
      exact ⟨⟨(ho6.1.trans ho5.1).trans ho7.1, (ho6.2.1.trans ho5.2.1).trans ho7.2.1, (ho6.2.2.1.trans ho5.2.2.1).trans ho7.2.2.1, Nat.le_trans ho7.size (Nat.le_trans ho5.size ho6.size), fun k h1 h2 => ((ho6.block (Nat.lt_of_lt_of_le (Nat.lt_of_lt_of_le h1 ho7.size) ho5.size) (by omega)).trans (ho5.block (Nat.lt_of_lt_of_le h1 ho7.size) (by omega))).trans (ho7.block h1 (by omega))⟩, .inl ⟨rfl, hr5, ((hA.2.1.kept ho7 (by omega)).kept ho5 (by omega)).kept ho6 (by omega), ((hA.2.2.1.kept ho7 (by omega)).kept ho5 (by omega)).kept ho6 (by omega), ((hA.2.2.2.1.kept ho7 (by omega)).kept ho5 (by omega)).kept ho6 (by omega), ho6.heap (ho5.heap (ho7.heap hA.2.2.2.2.1 (by omega)) (by omega)) (by omega), hl6, out_far ((out_far hA.2.2.2.2.2 ho7 (by omega)).trans (HR3.out.wide (i := 11) (by omega) ho5)) ho6 (by omega)⟩⟩

    · rintro e W ⟨hv, ⟨a1, a2, a3, a4⟩ | h⟩
      · exact ⟨hv, a2, .inl ⟨⟨a1, a4⟩, a3⟩⟩
      · exact h.elim
  case done =>
    rintro W W' ⟨a1, a2⟩ ho hd
    have HJ := hid_mk (And.intro (a1.kept ho (by have := HT.out; omega) (by have := HT.out; omega)) (out_far a2 ho (by omega)))
    have HD := hid_mk hd
    clear a1 a2 ho hd
    gi_wp2
    refine ⟨by simp, .inl ⟨_, _, rfl, run_takeDeferred HD.out, ?_⟩⟩
    refine ⟨_, results_none rfl _ _ _, ⟨_, rfl⟩, ?_, out_far HJ.out.2 (out_putObj _ _ _) (by omega)⟩
    rw [← lw_end HZ.out.2.2.2.2.2]
    exact HJ.out.1.kept (out_putObj _ _ _) (by have := HT.out; omega) (by have := HT.out; omega)
  case stop =>
    rintro c W W' h ho hd
    exact h.elim
end Go.Proofs.YtjbbkeoolodeaaaGreatDoor
