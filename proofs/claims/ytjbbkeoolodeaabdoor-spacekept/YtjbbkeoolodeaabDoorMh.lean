import Derived.Test.YtjbbkeoolodeaabDoorMg
import Derived.Test.YtjbbkeoolodeaabDoorMf
namespace Go.Proofs.YtjbbkeoolodeaabDoor
open Go.RowKit
attribute [local go_sem] Oper.semAt_some
set_option linter.unusedVariables false
set_option linter.unusedSimpArgs false

def linkR (n : Nat) (r : Raw) (c : Nat) : Nat → Int := fun i => if r.F c i then linkV (nxr (r.F c) (64 * n) (i + 1)) else r.W i
/-- those below p are written -/
def lwR (n : Nat) (r : Raw) (c p : Nat) : Nat → Int := fun i => if r.F c i = true ∧ i < p then linkV (nxr (r.F c) (64 * n) (i + 1)) else r.W i
theorem lw_zero (n : Nat) (r : Raw) (c : Nat) : lwR n r c 0 = r.W := by funext i; unfold lwR; rw [if_neg (by omega)]
theorem lw_skip {n : Nat} {r : Raw} {c p q : Nat} (h : p ≤ q) (hz : ∀ j, p ≤ j → j < q → r.F c j = false) : lwR n r c p = lwR n r c q := by
  funext i
  unfold lwR
  by_cases e : r.F c i = true ∧ i < q
  · have : i < p := by
      by_cases e2 : i < p
      · exact e2
      · have := hz i (by omega) e.2
        rw [e.1] at this; cases this
    rw [if_pos ⟨e.1, this⟩, if_pos e]
  · rw [if_neg e, if_neg (fun h' => e ⟨h'.1, by omega⟩)]
theorem lw_step {n : Nat} {r : Raw} {c a : Nat} (h : r.F c a = true) : updW (lwR n r c a) a (linkV (nxr (r.F c) (64 * n) (a + 1))) = lwR n r c (a + 1) := by
  funext i
  unfold updW lwR
  by_cases e : i = a
  · subst e; rw [if_pos rfl, if_pos ⟨h, Nat.lt_succ_self _⟩]
  · rw [if_neg e]
    by_cases e2 : r.F c i = true ∧ i < a
    · rw [if_pos e2, if_pos ⟨e2.1, by omega⟩]
    · rw [if_neg e2, if_neg (fun h' => e2 ⟨h'.1, by omega⟩)]
theorem lw_end {n : Nat} {r : Raw} {c : Nat} (hz : ∀ j, 64 * n ≤ j → r.F c j = false) : lwR n r c (64 * n) = linkR n r c := by
  funext i
  unfold lwR linkR
  cases e : r.F c i with
  | false => simp
  | true =>
    have : i < 64 * n := by
      by_cases e2 : i < 64 * n
      · exact e2
      · rw [hz i (by omega)] at e; cases e
    simp [this]
theorem link_at (v : Int) (w : World) : Calls Tryd.prog 56 #[.int .i64 v] w fun e w' => e = .returned (.int .i64 (linkV v)) ∧ w' = w := link_any v w
set_option maxRecDepth 100000 in
set_option maxHeartbeats 4000000 in
theorem spLink_any {w : World} {lo hi n cap : Nat} {s : Nat → Nat} {r : Raw} (h : RawAt w lo hi s n cap r) {c : Nat} (hc : c < 8) :
    Calls Tryd.prog 91 #[.pointer (some ⟨s 14, 0, none⟩), .int .i64 (c : Int)] w fun e w' => (∃ v, e = .returned v) ∧ RawAt w' lo hi s n cap { r with W := linkR n r c } ∧ Out lo hi w w' := by
  have HR0 := hid_mk h
  have HC := hid_mk hc
  have HZ := hid_mk (h.free c hc).bounds
  have h11 : s 11 < hi := by have := (h.inn 11 (by omega)).2; simp [ln] at this; omega
  have h14 : s 14 < hi ∧ s 11 ≠ s 14 := by have a := (h.inn 14 (by omega)).2; have b := h.apart 11 14 (by omega) (by omega) (by omega); simp [ln] at a b; omega
  have HT : Hid (hi ≤ w.heap.size ∧ 4 ≤ w.heap.size ∧ s 11 < hi ∧ s 14 < hi ∧ s 11 ≠ s 14 ∧ 4 ≤ lo ∧ n ≤ 4096) := ⟨h.top, h.tab.lt, h11, h14.1, h14.2, h.glob, h.n2⟩
  have HL := hid_mk (fun w => links_any (s 14) (c : Int) w)
  clear h hc h11 h14
  refine (callsIn_wide (n := 0)).1 ?_
  refine callsIn_of_wp_marks Tryd.func91 rfl trivial ?_ rfl
  simp only [Tryd.ntmps91, List.size_toArray, List.length_cons, List.length_nil, Nat.reduceAdd, Nat.reduceSub, Array.replicate_succ, Array.replicate_zero, List.push_toArray, List.append_toArray, List.nil_append, List.cons_append]
  gi_wp2_with (refine ⟨trivial, rfl, ?_⟩; gi_at_call 55; refine (callsIn_wide.2 (HL.out _)).mono ?_; rintro e w1 ⟨rfl, rfl⟩)
  obtain ⟨W1, hW1⟩ : ∃ W1, ((w.alloc (.cells #[.pointer (some ⟨s 14, 0, none⟩)] 30)).alloc (.cells #[.pointer (some ⟨s 14, 0, none⟩)] 30)).alloc (.cells #[.int .i64 (c : Int)] 3) = W1 := ⟨_, rfl⟩
  have hs1 : W1.heap.size = w.heap.size + 3 := by rw [← hW1]; simp
  have ho1 : Out 0 0 w W1 := by rw [← hW1]; exact ((((Out.refl 0 0 w).alloc _).alloc _).alloc _)
  have hy1 : Box W1 w.heap.size 30 (.pointer (some ⟨s 14, 0, none⟩)) := by rw [← hW1]; exact Box.alloc (w := (w.alloc (.cells #[.pointer (some ⟨s 14, 0, none⟩)] 30)).alloc (.cells #[.pointer (some ⟨s 14, 0, none⟩)] 30)) two_first _
  have hx1 : Box W1 (w.heap.size + 1) 30 (.pointer (some ⟨s 14, 0, none⟩)) := by rw [← hW1]; exact Box.alloc (w := (w.alloc (.cells #[.pointer (some ⟨s 14, 0, none⟩)] 30)).alloc (.cells #[.pointer (some ⟨s 14, 0, none⟩)] 30)) (heap_alloc2_new _ _ _) _
  have hz1 : Box W1 (w.heap.size + 1 + 1) 3 (.int .i64 (c : Int)) := by
    rw [← hW1]
    have := heap_alloc_new ((w.alloc (.cells #[.pointer (some ⟨s 14, 0, none⟩)] 30)).alloc (.cells #[.pointer (some ⟨s 14, 0, none⟩)] 30)) (.cells #[.int .i64 (c : Int)] 3)
    rw [World.size_alloc, World.size_alloc] at this
    exact this
  rw [hW1]
  clear hW1
  have HO1 := hid_mk ho1
  have HY1 := hid_mk hy1
  have HX1 := hid_mk hx1
  have HZ1 := hid_mk hz1
  clear ho1 hy1 hx1 hz1
  refine range_any (gf := 75) (lb := #[.pointer (some ⟨w.heap.size + 1, 0, none⟩), .pointer (some ⟨w.heap.size + 1 + 1, 0, none⟩)]) rfl (enters_of Tryd.func75 (by kernel_rfl) rfl)
    (fun W => RawAt W lo hi s n cap { r with W := lwR n r c (64 * n) } ∧ Out lo hi w W) (fun c W => False) ?H ?done ?stop
  case H =>
    intro rec hrec W2 hW2
    rw [hs1]
    have HR := hid_mk hrec
    have ho2 : Out 0 0 W1 W2 := by rw [hW2]; exact ((Out.refl 0 0 W1).alloc _).alloc _
    have hs2 : W2.heap.size = w.heap.size + 5 := by rw [hW2]; simp [hs1]
    have hd2 : W2.heap[w.heap.size + 3]? = some (.deferred (some [])) := by rw [hW2, ← hs1]; exact two_first
    have hl2 : W2.heap[w.heap.size + 3 + 1]? = some (.loop (rec .ready none)) := by rw [hW2, ← hs1]; exact heap_alloc2_new _ _ _
    refine (links_yield (lo := lo) (hi := hi) (n := n) (cap := cap) (s := s) (S := r.F c) (c := c) (g := w.heap.size + 1) (gc := w.heap.size + 1 + 1) (l := w.heap.size + 3 + 1) HC.out
      (fun p W => RawAt W lo hi s n cap { r with W := lwR n r c p } ∧ Box W w.heap.size 30 (.pointer (some ⟨s 14, 0, none⟩)) ∧ Box W (w.heap.size + 1) 30 (.pointer (some ⟨s 14, 0, none⟩)) ∧ Box W (w.heap.size + 1 + 1) 3 (.int .i64 (c : Int)) ∧ W.heap[w.heap.size + 3]? = some (.deferred (some [])) ∧ W.heap[w.heap.size + 3 + 1]? = some (.loop (rec .ready none)) ∧ Out lo hi w W)
      (fun W => RawAt W lo hi s n cap { r with W := lwR n r c (64 * n) } ∧ W.heap[w.heap.size + 3]? = some (.deferred (some [])) ∧ W.heap[w.heap.size + 3 + 1]? = some (.loop (rec .ready none)) ∧ Out lo hi w W)
      (fun W => False) (w := W2) ?hm1 ?hq1 ?hs1 ?hqj1 ?hqx1 ?hy1 ?he1 ?hz1).mono ?_
    case hm1 =>
      rintro p W ⟨a1, a2, a3, a4, a5, a6, a7⟩
      exact ⟨_, a1, rfl, a3, a4⟩
    case hq1 =>
      rintro p W W' x y ⟨a1, a2, a3, a4, a5, a6, a7⟩ o hx
      exact ⟨a1.kept o (by have := HT.out; omega) (by have := HT.out; omega), a2.kept o (by omega), a3.kept o (by omega), a4.kept o (by omega), o.heap a5 (by omega), o.heap a6 (by omega), out_far a7 o (by omega)⟩
    case hs1 =>
      rintro p q W ⟨a1, a2, a3, a4, a5, a6, a7⟩ hpq hz
      exact ⟨by rw [← lw_skip hpq hz]; exact a1, a2, a3, a4, a5, a6, a7⟩
    case hqj1 =>
      rintro W W' x y ⟨a1, a2, a3, a4⟩ o hx
      exact ⟨a1.kept o (by have := HT.out; omega) (by have := HT.out; omega), o.heap a2 (by omega), o.heap a3 (by omega), out_far a4 o (by omega)⟩
    case hqx1 =>
      rintro W W' x y h _ _
      exact h
    case he1 =>
      rintro p W ⟨a1, a2, a3, a4, a5, a6, a7⟩ hz
      refine ⟨?_, a5, a6, a7⟩
      by_cases e : p ≤ 64 * n
      · rw [← lw_skip e hz]; exact a1
      · rw [lw_skip (p := 64 * n) (q := p) (by omega) (fun j j1 _ => HZ.out.2.2.2.2.2 j j1)]; exact a1
    case hz1 =>
      have := (HR0.out.quiet (HO1.out.trans ho2))
      exact ⟨by rw [lw_zero]; exact this, HY1.out.kept ho2 (.inr (Nat.zero_le _)), HX1.out.kept ho2 (.inr (Nat.zero_le _)), HZ1.out.kept ho2 (.inr (Nat.zero_le _)), hd2, hl2, (HO1.out.trans ho2).any _ _⟩
    case hy1 =>
      rintro a W ⟨a1, a2, a3, a4, a5, a6, a7⟩ hSa haN
      have A := hid_mk (And.intro a1 (And.intro a2 (And.intro a3 (And.intro a4 (And.intro a5 a7)))))
      have HSa := hid_mk hSa
      have HaN := hid_mk haN
      have HL5 := hid_mk a6
      have k0 : (0 : Int) ≤ (a : Int) := by omega
      have k1 : (a : Int) < ((64 * n : Nat) : Int) := by omega
      have k2 : ((64 * n : Nat) : Int) ≤ 262144 := by have := HT.out; omega
      have k3 : (a : Int) < 64 * (n : Int) := by omega
      refine round_any HR.out a6 rfl ?_
      clear a1 a2 a3 a4 a5 a6 a7 hSa haN
      gi_wp2
      refine ⟨HL5.out, ?_⟩
      intro W3 ho3 hl3
      have HO3 := hid_mk ho3
      have HL3 := hid_mk hl3
      have c0 := (A.out.2.1.kept ho3 (.inl (by omega))).cell
      have hr3 := A.out.1.kept ho3 (.inl (by have := HT.out; omega)) (.inl (by have := HT.out; omega))
      have c1 := hr3.cells.1
      have d0 := hr3.words.cell HaN.out
      have d1 := hr3.words.frozen a
      have HR3 := hid_mk hr3
      have ho9 : ∀ v, Out (s 11) (s 11 + 1) W3.drew (W3.drew.setCell ⟨s 11, a, none⟩ v) := fun v => (Out.refl _ _ _).setCell (.inl ⟨Nat.le_refl _, Nat.lt_succ_self _⟩) _
      have n1 : s 14 < s 11 ∨ s 11 + 1 ≤ s 14 := by have := HT.out; omega
      have n2 : w.heap.size < s 11 ∨ s 11 + 1 ≤ w.heap.size := by have := HT.out; omega
      clear ho3 hl3 hr3
      gi_wp2_with fail
      refine region_roundN (S := fun w' => w'.cell? ⟨w.heap.size, 0, none⟩ = some (.pointer (some ⟨s 14, 0, none⟩)) ∧ w'.cell? ⟨s 14, 0, none⟩ = some (.slice (some ⟨s 11, 0, none⟩) (64 * n) cap)) (by kernel_rfl) (by kernel_rfl) ?hS1 (fun hHeld => ?rest1)
      case hS1 => exact ⟨c0, c1⟩
      refine wpAnyH_take (i := 0) (v := ?v2) rfl (by kernel_rfl) (by kernel_rfl) (by kernel_rfl) (fun _ _ _ h => h) (Or.inl ⟨by rfl, ?hy2⟩) (by assumption) ?rest2
      case hy2 => (intro w hSw; (try dsimp only at hSw); simp only [List.getElem_toArray, List.getElem_cons_zero, List.getElem_cons_succ]; go_simp; (try with_reducible rfl))
      (try simp only [Act.put, List.getElem_toArray, List.getElem_cons_zero, List.getElem_cons_succ, List.setIfInBounds_toArray, List.set_cons_zero, List.set_cons_succ])
      refine wpAnyH_take (i := 1) (v := ?v3) rfl (by kernel_rfl) (by kernel_rfl) (by kernel_rfl) (fun _ _ _ h => h) (Or.inl ⟨by rfl, ?hy3⟩) (by assumption) ?rest3
      case hy3 => (intro w hSw; (try dsimp only at hSw); simp only [List.getElem_toArray, List.getElem_cons_zero, List.getElem_cons_succ]; go_simp; (try with_reducible rfl))
      (try simp only [Act.put, List.getElem_toArray, List.getElem_cons_zero, List.getElem_cons_succ, List.setIfInBounds_toArray, List.set_cons_zero, List.set_cons_succ])
      refine wpAnyH_take (i := 2) (v := ?v4) rfl (by kernel_rfl) (by kernel_rfl) (by kernel_rfl) (fun _ _ _ h => h) (Or.inl ⟨by rfl, ?hy4⟩) (by assumption) ?rest4
      case hy4 => (intro w hSw; (try dsimp only at hSw); simp only [List.getElem_toArray, List.getElem_cons_zero, List.getElem_cons_succ]; go_simp; (try with_reducible rfl))
      (try simp only [Act.put, List.getElem_toArray, List.getElem_cons_zero, List.getElem_cons_succ, List.setIfInBounds_toArray, List.set_cons_zero, List.set_cons_succ])
      refine wpAnyH_take (i := 3) (v := ?v5) rfl (by kernel_rfl) (by kernel_rfl) (by kernel_rfl) (fun _ _ _ h => h) (Or.inl ⟨by rfl, ?hy5⟩) (by assumption) ?rest5
      case hy5 => (intro w hSw; (try dsimp only at hSw); simp only [List.getElem_toArray, List.getElem_cons_zero, List.getElem_cons_succ]; go_simp; (try with_reducible rfl))
      (try simp only [Act.put, List.getElem_toArray, List.getElem_cons_zero, List.getElem_cons_succ, List.setIfInBounds_toArray, List.set_cons_zero, List.set_cons_succ])
      refine wpAnyH_take (i := 4) (v := ?v6) rfl (by kernel_rfl) (by kernel_rfl) (by kernel_rfl) (fun _ _ _ h => h) (Or.inl ⟨by rfl, ?hy6⟩) (by assumption) ?rest6
      case hy6 => (intro w hSw; (try dsimp only at hSw); simp only [List.getElem_toArray, List.getElem_cons_zero, List.getElem_cons_succ]; go_simp; (try with_reducible rfl))
      (try simp only [Act.put, List.getElem_toArray, List.getElem_cons_zero, List.getElem_cons_succ, List.setIfInBounds_toArray, List.set_cons_zero, List.set_cons_succ])
      refine wpAnyH_take (i := 5) (v := ?v7) rfl (by kernel_rfl) (by kernel_rfl) (by kernel_rfl) (fun _ _ _ h => h) (Or.inl ⟨by rfl, ?hy7⟩) (by assumption) ?rest7
      case hy7 => (intro w hSw; (try dsimp only at hSw); simp only [List.getElem_toArray, List.getElem_cons_zero, List.getElem_cons_succ]; go_simp; (try with_reducible rfl))
      (try simp only [Act.put, List.getElem_toArray, List.getElem_cons_zero, List.getElem_cons_succ, List.setIfInBounds_toArray, List.set_cons_zero, List.set_cons_succ])
      refine wpAnyH_ready (rs := [6]) (by kernel_rfl) (by simp) ?_
      refine AllReadyH.cons rfl (fun KK hK => ?_) AllReadyH.nil
      simp only [List.getElem_toArray, List.getElem_cons_zero, List.getElem_cons_succ]
      go_simp
      refine (link_at (nxr (r.F c) (64 * n) (a + 1)) _).mono ?_
      rintro e w5 ⟨rfl, rfl⟩
      refine hK.out _ _ ?hS8 (fun hHeld2 => ?rest8)
      case hS8 => exact hHeld
      clear hK KK
      (try clear hHeld)
      have hHeld := hHeld2
      clear hHeld2
      (try simp only [Act.put, List.getElem_toArray, List.getElem_cons_zero, List.getElem_cons_succ, List.setIfInBounds_toArray, List.set_cons_zero, List.set_cons_succ])
      refine wpAnyH_take (i := 7) (v := ?v9) rfl (by kernel_rfl) (by kernel_rfl) (by kernel_rfl) (fun _ _ _ h => h) (Or.inl ⟨by rfl, ?hy9⟩) (by assumption) ?rest9
      case hy9 => (intro w hSw; (try dsimp only at hSw); simp only [List.getElem_toArray, List.getElem_cons_zero, List.getElem_cons_succ]; go_simp; (try with_reducible rfl))
      (try simp only [Act.put, List.getElem_toArray, List.getElem_cons_zero, List.getElem_cons_succ, List.setIfInBounds_toArray, List.set_cons_zero, List.set_cons_succ])
      refine wpAnyH_ready (rs := [8]) (by kernel_rfl) (by simp) ?_
      refine AllReadyH.cons rfl (fun KK hK => ?_) AllReadyH.nil
      simp only [List.getElem_toArray, List.getElem_cons_zero, List.getElem_cons_succ]
      go_simp
      refine hK.out _ _ ?hS10 (fun hHeld2 => ?rest10)
      case hS10 => exact ⟨(ho9 _).cell hHeld.1 (by omega), (ho9 _).cell hHeld.2 (by omega)⟩
      clear hK KK
      (try clear hHeld)
      have hHeld := hHeld2
      clear hHeld2
      (try simp only [Act.put, List.getElem_toArray, List.getElem_cons_zero, List.getElem_cons_succ, List.setIfInBounds_toArray, List.set_cons_zero, List.set_cons_succ])
      refine wpAnyH_done (by kernel_rfl) ?_ _
      clear hHeld
      simp only [noOut, onlyN]
      gi_wp2
      have hp := HR3.out.poke a (linkV (nxr (r.F c) (64 * n) (a + 1)))
      have ho5 := hp.2.drew
      refine ⟨ho5.heap HL3.out (.inr (by have := HT.out; omega)), ?_⟩
      intro W5 ho6 hl6
      have hr5 : RawAt W5 lo hi s n cap { r with W := lwR n r c (a + 1) } := by
        rw [← lw_step HSa.out]
        exact (hp.1.quiet ((Out.refl 0 0 _).drew)).kept ho6 (by have := HT.out; omega) (by have := HT.out; omega)
      have hA := A.out
      have hT := HT.out
      have ho7 := HO3.out
      exact ⟨⟨(ho6.1.trans ho5.1).trans ho7.1, (ho6.2.1.trans ho5.2.1).trans ho7.2.1, (ho6.2.2.1.trans ho5.2.2.1).trans ho7.2.2.1, Nat.le_trans ho7.size (Nat.le_trans ho5.size ho6.size), fun k h1 h2 => ((ho6.block (Nat.lt_of_lt_of_le (Nat.lt_of_lt_of_le h1 ho7.size) ho5.size) (by omega)).trans (ho5.block (Nat.lt_of_lt_of_le h1 ho7.size) (by omega))).trans (ho7.block h1 (by omega))⟩, .inl ⟨rfl, hr5, ((hA.2.1.kept ho7 (by omega)).kept ho5 (by omega)).kept ho6 (by omega), ((hA.2.2.1.kept ho7 (by omega)).kept ho5 (by omega)).kept ho6 (by omega), ((hA.2.2.2.1.kept ho7 (by omega)).kept ho5 (by omega)).kept ho6 (by omega), ho6.heap (ho5.heap (ho7.heap hA.2.2.2.2.1 (by omega)) (by omega)) (by omega), hl6, out_far ((out_far hA.2.2.2.2.2 ho7 (by omega)).trans (HR3.out.wide (i := 11) (by omega) ho5)) ho6 (by omega)⟩⟩

    · rintro e W ⟨hv, ⟨a1, a2, a3, a4⟩ | h⟩
      · exact ⟨hv, a2, .inl ⟨⟨a1, a4⟩, a3⟩⟩
      · exact h.elim
  case done =>
    rintro W W' ⟨a1, a2⟩ ho hd
    have HJ := hid_mk (And.intro (a1.kept ho (by have := HT.out; omega) (by have := HT.out; omega)) (out_far a2 ho (by omega)))
    have HD := hid_mk hd
    clear a1 a2 ho hd
    gi_wp2
    refine ⟨by simp, .inl ⟨_, _, rfl, run_takeDeferred HD.out, ?_⟩⟩
    refine ⟨_, results_none rfl _ _ _, ⟨_, rfl⟩, ?_, out_far HJ.out.2 (out_putObj _ _ _) (by omega)⟩
    rw [← lw_end HZ.out.2.2.2.2.2]
    exact HJ.out.1.kept (out_putObj _ _ _) (by have := HT.out; omega) (by have := HT.out; omega)
  case stop =>
    rintro c W W' h ho hd
    exact h.elim
end Go.Proofs.YtjbbkeoolodeaabDoor
namespace Go.Proofs.YtjbbkeoolodeaabDoor
open Go.RowKit
set_option linter.unusedVariables false
set_option linter.unusedSimpArgs false

theorem elem_ints : Tryd.prog.elem 27 = 3 := by kernel_rfl
theorem size_int (w : World) : (sizeOf 3).run Tryd.prog w = .ok 1 w := by kernel_rfl
theorem islice_at (bw n cap lo hi : Nat) (h1 : lo ≤ hi) (h2 : hi ≤ cap) : ∃ o cp : Nat, (∀ wx, (Instr.slice 27 (.slice (some ⟨bw, 0, none⟩) n cap) (some (.int .i64 (lo : Int))) (some (.int .i64 (hi : Int))) none).run Tryd.prog wx = .ok (.slice (some ⟨bw, o, none⟩) (hi - lo) cp) wx) ∧ (0 < hi - lo → o = lo) := by
  by_cases e : cap = lo
  · refine ⟨0, cap - lo, fun wx => ?_, fun h => by omega⟩
    rw [run_slice_lh wx 27 _ n cap (by rw [elem_ints]; exact Tryd.underlying27) .i64 .i64 (lo : Int) (hi : Int) (by omega) (by omega) (by omega), elem_ints, size_int]
    simp [Result.andThen, sliced, e]
  · refine ⟨lo, cap - lo, fun wx => ?_, fun h => rfl⟩
    rw [run_slice_lh wx 27 _ n cap (by rw [elem_ints]; exact Tryd.underlying27) .i64 .i64 (lo : Int) (hi : Int) (by omega) (by omega) (by omega), elem_ints, size_int]
    have e2 : (⟨bw, 0, none⟩ : Addr).add lo = ⟨bw, lo, none⟩ := by rw [Addr.add_lit, Nat.zero_add]
    simp [Result.andThen, sliced, e, e2]
section
variable {w : World} {lo hi n cap : Nat} {s : Nat → Nat} {r : Raw}
theorem RawAt.clear (h : RawAt w lo hi s n cap r) {a k o cp : Nat} (hk : a + k ≤ 64 * n) (ho : 0 < k → o = a) :
    ∃ w', (∀ ty, (Builtin.clear_ #[27] ty #[.slice (some ⟨s 11, o, none⟩) k cp]).run Tryd.prog w = .ok (.tuple #[]) w') ∧ RawAt w' lo hi s n cap { r with W := zeroW r.W a k } ∧ Out (s 11) (s 11 + 1) w w' := by
  by_cases h0 : 0 < k
  · obtain rfl := ho h0
    have hO : Out (s 11) (s 11 + 1) w (w.setCells (s 11) o (List.replicate k (.int .i64 0))) := Out.setAll ⟨Nat.le_refl _, Nat.lt_succ_self _⟩ _ _ _ _ _ (Out.refl _ _ _)
    refine ⟨w.setCells (s 11) o (List.replicate k (.int .i64 0)), fun ty => Lib.run_clear_slice w 27 3 ty (.int .i64 0) Tryd.underlying27 zero_int rfl rfl (s 11) o k cp h0 (fun j hj => by rw [h.words.cell (i := o + j) (by omega)]; rfl) (fun j hj => h.words.frozen _), h.setW hO ((Row.fillAll _ _ _ _ _ h.words).congr fun i hi => ?_), hO⟩
    unfold zeroW
    by_cases e : o ≤ i ∧ i < o + k
    · rw [if_pos e, if_pos e]
    · rw [if_neg e, if_neg e]
  · obtain rfl : k = 0 := by omega
    refine ⟨w, fun ty => by simp [Builtin.clear_, run_underlying Tryd.underlying27], ?_, Out.refl _ _ _⟩
    have : zeroW r.W a 0 = r.W := by funext i; unfold zeroW; rw [if_neg (by omega)]
    rw [this]; exact h
/-- the blocks of the page that are among the first i -/
def fuF (r : Raw) (c p i : Nat) : Nat → Bool := fun j => r.F c j || (decide (j / 64 = p ∧ (j % 64) % wN (c : Int) = 0 ∧ (j % 64) / wN (c : Int) < i) && !r.P j)
def fuR (r : Raw) (c p : Nat) : Nat → Bool := fun j => r.F c j || (decide (j / 64 = p) && startB (c : Int) (j % 64) && !r.P j)
theorem class_nums {c : Nat} (hc : c < 8) : ∃ x y : Nat, wordsV (c : Int) = x ∧ wN (c : Int) = x ∧ blocksV (c : Int) = y ∧ ((c = 0 ∧ x = 2 ∧ y = 32) ∨ (c = 1 ∧ x = 4 ∧ y = 16) ∨ (c = 2 ∧ x = 6 ∧ y = 10) ∨ (c = 3 ∧ x = 8 ∧ y = 8) ∨ (c = 4 ∧ x = 12 ∧ y = 5) ∨ (c = 5 ∧ x = 16 ∧ y = 4) ∨ (c = 6 ∧ x = 20 ∧ y = 3) ∨ (c = 7 ∧ x = 32 ∧ y = 2)) := by
  have : c = 0 ∨ c = 1 ∨ c = 2 ∨ c = 3 ∨ c = 4 ∨ c = 5 ∨ c = 6 ∨ c = 7 := by omega
  rcases this with rfl | rfl | rfl | rfl | rfl | rfl | rfl | rfl
  · exact ⟨2, 32, rfl, rfl, rfl, by omega⟩
  · exact ⟨4, 16, rfl, rfl, rfl, by omega⟩
  · exact ⟨6, 10, rfl, rfl, rfl, by omega⟩
  · exact ⟨8, 8, rfl, rfl, rfl, by omega⟩
  · exact ⟨12, 5, rfl, rfl, rfl, by omega⟩
  · exact ⟨16, 4, rfl, rfl, rfl, by omega⟩
  · exact ⟨20, 3, rfl, rfl, rfl, by omega⟩
  · exact ⟨32, 2, rfl, rfl, rfl, by omega⟩
theorem start_iff {c : Nat} (hc : c < 8) {o : Nat} (ho : o < 64) : startB (c : Int) o = decide (o % wN (c : Int) = 0 ∧ o / wN (c : Int) < (blocksV (c : Int)).toNat) := by
  obtain ⟨x, y, h1, h2, h3, h4⟩ := class_nums hc
  unfold startB
  rw [h2, h3, Bool.eq_iff_iff]
  simp
  intro hm
  rcases h4 with ⟨_, rfl, rfl⟩ | ⟨_, rfl, rfl⟩ | ⟨_, rfl, rfl⟩ | ⟨_, rfl, rfl⟩ | ⟨_, rfl, rfl⟩ | ⟨_, rfl, rfl⟩ | ⟨_, rfl, rfl⟩ | ⟨_, rfl, rfl⟩ <;> omega
theorem fu_zero (r : Raw) (c p : Nat) : fuF r c p 0 = r.F c := by funext j; unfold fuF; simp
theorem fu_end (r : Raw) {c : Nat} (hc : c < 8) (p : Nat) : fuF r c p (blocksV (c : Int)).toNat = fuR r c p := by
  funext j
  unfold fuF fuR
  rw [start_iff hc (show j % 64 < 64 from by omega)]
  congr 2
  rw [Bool.eq_iff_iff]
  simp
/-- the next block -/
theorem fu_step (r : Raw) {c : Nat} (hc : c < 8) (p i : Nat) (hi : (i : Int) < blocksV (c : Int)) : ∃ a : Nat, 64 * p + i * wN (c : Int) = a ∧ a < 64 * p + 64 ∧ startV (c : Int) (i : Int) = ((i * wN (c : Int) : Nat) : Int) ∧
    fuF r c p (i + 1) = (fun j => if j = a then (fuF r c p i a || !r.P a) else fuF r c p i j) := by
  obtain ⟨x, y, h1, h2, h3, h4⟩ := class_nums hc
  have hix : i * x + x ≤ 64 ∧ 2 ≤ x := by
    rw [h3] at hi
    rcases h4 with ⟨_, rfl, rfl⟩ | ⟨_, rfl, rfl⟩ | ⟨_, rfl, rfl⟩ | ⟨_, rfl, rfl⟩ | ⟨_, rfl, rfl⟩ | ⟨_, rfl, rfl⟩ | ⟨_, rfl, rfl⟩ | ⟨_, rfl, rfl⟩ <;> omega
  refine ⟨64 * p + i * x, by rw [h2], by omega, ?_, ?_⟩
  · unfold startV
    rw [if_pos ⟨by omega, hi⟩, h1, h2]; simp
  · have hq : ∀ j : Nat, (j / 64 = p ∧ (j % 64) % x = 0 ∧ (j % 64) / x = i) ↔ j = 64 * p + i * x := by
      intro j
      have hd := Nat.div_add_mod (j % 64) x
      constructor
      · rintro ⟨e1, e2, e3⟩
        rw [e3, e2, Nat.add_zero, Nat.mul_comm x i] at hd
        clear e2 e3
        generalize i * x = t at *
        omega
      · intro e
        have e4 : j % 64 = i * x := by omega
        refine ⟨by omega, by rw [e4]; exact Nat.mul_mod_left _ _, by rw [e4]; exact Nat.mul_div_cancel _ (by omega)⟩
    funext j
    unfold fuF
    rw [h2]
    by_cases e : j = 64 * p + i * x
    · rw [if_pos e, ← e]
      have := (hq j).2 e
      have e5 : decide (j / 64 = p ∧ (j % 64) % x = 0 ∧ (j % 64) / x < i + 1) = true := by simp; omega
      have e6 : decide (j / 64 = p ∧ (j % 64) % x = 0 ∧ (j % 64) / x < i) = false := by simp; omega
      rw [e5, e6]
      cases r.F c j <;> cases r.P j <;> rfl
    · rw [if_neg e]
      have e5 : decide (j / 64 = p ∧ (j % 64) % x = 0 ∧ (j % 64) / x < i + 1) = decide (j / 64 = p ∧ (j % 64) % x = 0 ∧ (j % 64) / x < i) := by
        rw [Bool.eq_iff_iff]
        simp
        intro e1 e2
        have : ¬ ((j % 64) / x = i) := fun e3 => e ((hq j).1 ⟨e1, e2, e3⟩)
        omega
      rw [e5]
set_option maxRecDepth 100000 in
set_option maxHeartbeats 2000000 in
theorem freeUp_any (h : RawAt w lo hi s n cap r) {c p : Nat} (hc : c < 8) (hp : p < n) :
    Calls Tryd.prog 90 #[.pointer (some ⟨s 14, 0, none⟩), .int .i64 (p : Int), .int .i64 (c : Int)] w fun e w' => (∃ v, e = .returned v) ∧ RawAt w' lo hi s n cap { r with F := fun d => if d = c then fuR r c p else r.F d } ∧ Out lo hi w w' := by
  have HC := hid_mk hc
  have HP := hid_mk hp
  have HR := hid_mk h
  have HN : Hid (n ≤ 4096) := h.n2
  have HB := hid_mk (calls_out (blocks_any (c : Int) w) (Out.refl 0 0 w))
  obtain ⟨y, hy⟩ : ∃ y : Nat, blocksV (c : Int) = y := by obtain ⟨x, y, h1, h2, h3, h4⟩ := class_nums hc; exact ⟨y, h3⟩
  rw [hy] at HB
  have k0 : (0 : Int) ≤ (p : Int) := by omega
  have k1 : (p : Int) < 4096 := by have := h.n2; omega
  have k2 : (0 : Int) ≤ (c : Int) := by omega
  have k3 : (c : Int) < 8 := by omega
  have k4 : (y : Int) ≤ 32 := by obtain ⟨x, y', h1, h2, h3, h4⟩ := class_nums hc; omega
  have HY := hid_mk hy
  clear h hc hp hy
  go_enter Tryd.func90, Tryd.ntmps90
  go_wp2_with (first | (go_at_call 97; refine HB.out.mono ?_; rintro e w1 ⟨rfl, ho⟩))
  have HR1 := hid_mk (HR.out.quiet ho)
  have HO1 := hid_mk ho
  clear ho
  go_loopw [10] (fun u wr => ∃ i : Nat, u = .int .i64 (i : Int) ∧ i ≤ y ∧ RawAt wr lo hi s n cap { r with F := fun d => if d = c then fuF r c p i else r.F d } ∧ Out lo hi w wr) (fun u _ => ((y : Int) - intOf u).toNat)
  case atStart =>
    refine ⟨0, rfl, Nat.zero_le _, HR1.out.congr ?_, HO1.out.any _ _⟩
    refine Raw.eq rfl rfl ?_ rfl rfl rfl rfl
    funext d
    show r.F d = if d = c then fuF r c p 0 else r.F d
    by_cases e : d = c
    · rw [if_pos e, fu_zero, e]
    · rw [if_neg e]
  case round =>
    clear HR1 HO1 HB HR
    obtain ⟨i, rfl, i1, i2, i3⟩ := hrel
    have HR2 := hid_mk i2
    have HO2 := hid_mk i3
    by_cases hlt : (i : Int) < (y : Int)
    · obtain ⟨a, e1, e2, e3, e4⟩ := fu_step r HC.out p i (by rw [HY.out]; exact hlt)
      have j0 : (0 : Int) ≤ (i : Int) := by omega
      have HS := hid_mk (calls_out (start_any (c : Int) (i : Int) wr) (Out.refl 0 0 wr))
      rw [e3] at HS
      obtain ⟨q, hq⟩ : ∃ q : Nat, i * wN (c : Int) = q := ⟨_, rfl⟩
      rw [hq] at HS e1
      have m0 : (0 : Int) ≤ (q : Int) := by omega
      have m1 : (q : Int) < 64 := by omega
      have m2 : (p : Int) * 64 + (q : Int) = (a : Int) := by omega
      have HA : Hid (a < 64 * n) := by show _ < _; have := HP.out; omega
      have HE4 := hid_mk e4
      have HM2 := hid_mk m2
      clear i2 i3 e1 e2 e3 e4 hq m2
      go_wp2_with (first
        | (go_at_call 98; refine HS.out.mono ?_; rintro e w2 ⟨rfl, ho⟩; have HR3 := hid_mk (HR2.out.quiet ho); have HO3 := hid_mk (HO2.out.trans (ho.any lo hi)); obtain ⟨d0, d1, d2, d3, d4, d5⟩ := HR3.out.cells; have dF := HR3.out.cellF HC.out; clear ho HR2 HO2)
        | (go_at_call 67; rw [HM2.out]; refine (get_any HR3.out.places (a : Int)).mono ?_; rintro e w3 ⟨rfl, ho⟩; have HR4 := hid_mk (HR3.out.quiet ho); have HO4 := hid_mk (HO3.out.trans (ho.any lo hi)); have eF := HR4.out.cellF HC.out; clear ho dF d0 d1 d2 d3 d4 d5; obtain ⟨bb, hbb⟩ : ∃ bb, getB r.P (64 * n) (a : Int) = bb := ⟨_, rfl⟩; simp only [hbb])
        | (go_at_call 63; refine (set_any (HR4.out.free c HC.out) (a : Int)).mono ?_; rintro e w4 ⟨rfl, hm, ho⟩; have HR5 := hid_mk (HR4.out.setF HC.out ho hm); have HO5 := hid_mk (HO4.out.trans (HR4.out.wide (i := c) (by have := HC.out; omega) (by unfold ln; rw [if_pos (by have := HC.out; omega)]; exact ho))); clear hm ho))
      · have hP : r.P a = false := by
          have h1 : getB r.P (64 * n) (a : Int) = false := by rw [hbb]; rename_i hq; simpa using hq
          unfold getB at h1
          rw [show inB (64 * n) (a : Int) = true from by unfold inB; simp; have := HA.out; omega] at h1
          simpa using h1
        refine ⟨⟨i + 1, by congr 1, by omega, HR5.out.congr ?_, HO5.out⟩, by simp [intOf]; omega⟩
        refine Raw.eq rfl rfl ?_ rfl rfl rfl rfl
        funext d
        simp only [if_true]
        by_cases e : d = c
        · rw [if_pos e, if_pos e, HE4.out]
          funext j
          unfold setS
          rw [if_pos (show inB (64 * n) (a : Int) = true from by unfold inB; simp; have := HA.out; omega)]
          unfold upd
          rw [show (a : Int).toNat = a from by omega, hP]
          by_cases e2 : j = a
          · rw [if_pos e2, if_pos e2]; simp
          · rw [if_neg e2, if_neg e2]
        · rw [if_neg e, if_neg e, if_neg e]
      · have hP : r.P a = true := by
          have h1 : getB r.P (64 * n) (a : Int) = true := by rw [hbb]; rename_i hq; simpa using hq
          unfold getB at h1
          simp at h1
          exact h1.2
        refine ⟨⟨i + 1, by congr 1, by omega, HR4.out.congr ?_, HO4.out⟩, by simp [intOf]; omega⟩
        refine Raw.eq rfl rfl ?_ rfl rfl rfl rfl
        funext d
        show (if d = c then fuF r c p i else r.F d) = if d = c then fuF r c p (i + 1) else r.F d
        by_cases e : d = c
        · rw [if_pos e, if_pos e, HE4.out]
          funext j
          by_cases e2 : j = a
          · rw [if_pos e2, hP, e2]; simp
          · rw [if_neg e2]
        · rw [if_neg e, if_neg e]
    · have e : i = y := by omega
      subst e
      clear i2 i3
      have hge : (i : Int) ≤ (i : Int) := Int.le_refl _
      go_wp2
      refine bodyPost_end (results_none Tryd.results90 _ _ _) rfl ⟨⟨_, rfl⟩, HR2.out.congr ?_, HO2.out⟩
      refine Raw.eq rfl rfl ?_ rfl rfl rfl rfl
      funext d
      show (if d = c then fuF r c p i else r.F d) = if d = c then fuR r c p else r.F d
      rw [← fu_end r HC.out p, HY.out]; rfl
end
end Go.Proofs.YtjbbkeoolodeaabDoor
namespace Go.Proofs.YtjbbkeoolodeaabDoor
open Go.RowKit
set_option linter.unusedVariables false
set_option linter.unusedSimpArgs false

theorem results_tmp_cell {fn : Func} {p u : Tmp} {ty : TypeId} (h : fn.results = #[.tmp u, .cell p ty]) (tmps : Array Value) (P : Program) (w : World) :
    (results fn tmps).run P w = ((asAddr (tmps.getD p undef)).run P w).andThen fun ad w1 => ((loadVar ty ad).run P w1).andThen fun v w2 => .ok (.tuple #[tmps.getD u undef, v]) w2 := by
  unfold results
  simp [h, Sem.run_bind, Result.andThen]
theorem retIF {fn : Func} {p u : Tmp} {a : Act} {w : World} {g : Nat} {x1 x2 v : Int} {post : Ending → World → Prop} (hr : fn.results = #[.tmp u, .cell p 57]) (hp : a.tmps.getD p undef = .pointer (some ⟨g, 0, none⟩)) (hu : a.tmps.getD u undef = .int .i64 v)
    (hd : a.defers = []) (hg : w.heap[g]? = some (.cells #[.int .i64 x1, .int .i64 x2] 57 (0, 0))) (h : post (.returned (.tuple #[.int .i64 v, .agg #[.int .i64 x1, .int .i64 x2]])) w) : bodyPost Tryd.prog fn post Exit.ret a w := by
  refine bodyPost_ret (v := .tuple #[.int .i64 v, .agg #[.int .i64 x1, .int .i64 x2]]) ?_ hd h
  rw [results_tmp_cell hr, hp]
  simp [asAddr, run_loadVar_row w g 57 57 _ (0, 0) _ hg Tryd.underlying57 rfl (infoF x1 x2), Result.andThen]
  simpa using hu
theorem ret_pg {a b : Int} {v : Value} (h : a = b) : Ending.returned (.tuple #[.int .i64 a, v]) = .returned (.tuple #[.int .i64 b, v]) := by rw [h]
section
variable {w : World} {lo hi n cap : Nat} {s : Nat → Nat} {r : Raw}
theorem raw_takeRun (h : RawAt w lo hi s n cap r) (k : Nat) (h1 : 1 ≤ k) (h2 : k ≤ 16) :
    Calls Tryd.prog 79 #[.pointer (some ⟨s 9, 0, none⟩), .int .i64 (k : Int)] w fun e w' => e = .returned (.tuple #[.int .i64 (((rowF r.S n k).getD 0 : Nat) : Int), .int .i64 (if (rowF r.S n k).isSome then 0 else 20)]) ∧
      RawAt w' lo hi s n cap { r with S := match rowF r.S n k with | some p => setR r.S p k | none => r.S } ∧ Out lo hi w w' := by
  refine (takeRun_any h.tbl h.tab (k : Int)).mono ?_
  rintro e w' ⟨rfl, ht, ho⟩
  have hb : runB (k : Int) = true := by unfold runB; simp; omega
  unfold trP trE
  unfold trS at ht
  rw [hb] at ht ⊢
  simp only [if_true, Int.toNat_natCast] at ht ⊢
  exact ⟨by first | trivial | rfl, h.setT ho ht, h.wide (i := 10) (by omega) ho⟩
theorem raw_takeClass (h : RawAt w lo hi s n cap r) (c : Nat) (hc : c < 8) :
    Calls Tryd.prog 94 #[.pointer (some ⟨s 9, 0, none⟩), .int .i64 (c : Int)] w fun e w' => e = .returned (.tuple #[.int .i64 (((rowF r.S n 1).getD 0 : Nat) : Int), .int .i64 (if (rowF r.S n 1).isSome then 0 else 20)]) ∧
      RawAt w' lo hi s n cap { r with S := match rowF r.S n 1 with | some p => setC r.S p (c : Int) | none => r.S } ∧ Out lo hi w w' := by
  refine (takeClass_any h.tbl h.tab (c : Int)).mono ?_
  rintro e w' ⟨rfl, ht, ho⟩
  have hb : classB (c : Int) = true := by unfold classB; simp; omega
  unfold tcP tcE
  unfold tcS at ht
  rw [hb] at ht ⊢
  simp only [if_true] at ht ⊢
  exact ⟨by first | trivial | rfl, h.setT ho ht, h.wide (i := 10) (by omega) ho⟩
/-- the box of a fault at the call's beginning -/
theorem fz_new (w : World) : (w.alloc (.cells #[.int .i64 0, .int .i64 0] 57)).heap[w.heap.size]? = some (.cells #[.int .i64 0, .int .i64 0] 57 (0, 0)) := heap_alloc_new _ _
set_option maxHeartbeats 1000000 in
theorem spTakeRun_any (h : RawAt w lo hi s n cap r) (k : Nat) (h1 : 1 ≤ k) (h2 : k ≤ 16) :
    Calls Tryd.prog 60 #[.pointer (some ⟨s 14, 0, none⟩), .int .i64 (k : Int)] w fun e w' =>
      (match rowF r.S n k with
       | some p => e = .returned (.tuple #[.int .i64 ((64 * p : Nat) : Int), .agg #[.int .i64 0, .int .i64 0]]) ∧ RawAt w' lo hi s n cap { r with S := setR r.S p k }
       | none => e = .returned (.tuple #[.int .i64 0, .agg #[.int .i64 20, .int .i64 0]]) ∧ RawAt w' lo hi s n cap r) ∧ Out lo hi w w' := by
  have h0 : Out 0 0 w (w.alloc (.cells #[.int .i64 0, .int .i64 0] 57)) := (Out.refl 0 0 w).alloc _
  have HZ := hid_mk (fz_new w)
  have H0 := hid_mk h0
  have HK := hid_mk (raw_takeRun (h.quiet h0) k h1 h2)
  obtain ⟨c0, c1, c2, c3, c4, c5⟩ := (h.quiet h0).cells
  have HT : Hid (hi ≤ w.heap.size ∧ 4 ≤ w.heap.size ∧ n ≤ 4096) := ⟨h.top, h.tab.lt, h.n2⟩
  cases hf : rowF r.S n k with
  | none =>
    rw [hf] at HK
    simp only [Option.getD_none, Option.isSome_none] at HK
    have e4 : ((20 : Int) != 0) = true := rfl
    clear h h0 hf h1 h2
    go_enter Tryd.func60, Tryd.ntmps60
    go_wp2_with (first | (go_at_call 79; refine HK.out.mono ?_; rintro e w1 ⟨rfl, hr, ho⟩; obtain ⟨q4, q5, q6, q7⟩ := flt_facts (ho.heap HZ.out (.inr HT.out.1)); have HR1 := hid_mk hr; have HO := hid_mk ho; clear hr ho))
    refine retIF Tryd.results60 rfl rfl rfl (flt_set (HO.out.heap HZ.out (.inr HT.out.1))) ⟨⟨rfl, HR1.out.kept ((Out.refl w.heap.size (w.heap.size + 1) _).set2 (.inl ⟨Nat.le_refl _, Nat.lt_succ_self _⟩) _ _) (.inl HT.out.1) (.inl HT.out.2.1)⟩, ((H0.out.any lo hi).trans HO.out).set2 (.inr (Nat.le_refl _)) _ _⟩
  | some p =>
    rw [hf] at HK
    simp only [Option.getD_some, Option.isSome_some, if_true] at HK
    have hp := rowF_some hf
    have b0 : (0 : Int) ≤ (p : Int) := by omega
    have b1 : (p : Int) < 4096 := by have := HT.out; omega
    have e4 : ((0 : Int) != 0) = false := rfl
    clear h h0 hf h1 h2 hp
    go_enter Tryd.func60, Tryd.ntmps60
    go_wp2_with (first | (go_at_call 79; refine HK.out.mono ?_; rintro e w1 ⟨rfl, hr, ho⟩; obtain ⟨q4, q5, q6, q7⟩ := flt_facts (ho.heap HZ.out (.inr HT.out.1)); have HR1 := hid_mk hr; have HO := hid_mk ho; clear hr ho))
    refine retIF Tryd.results60 rfl rfl rfl (flt_set (HO.out.heap HZ.out (.inr HT.out.1))) ⟨⟨ret_pg (by omega), HR1.out.kept ((Out.refl w.heap.size (w.heap.size + 1) _).set2 (.inl ⟨Nat.le_refl _, Nat.lt_succ_self _⟩) _ _) (.inl HT.out.1) (.inl HT.out.2.1)⟩, ((H0.out.any lo hi).trans HO.out).set2 (.inr (Nat.le_refl _)) _ _⟩
end
end Go.Proofs.YtjbbkeoolodeaabDoor
namespace Go.Proofs.YtjbbkeoolodeaabDoor
open Go.RowKit
set_option linter.unusedVariables false
set_option linter.unusedSimpArgs false

section
variable {w : World} {lo hi n cap : Nat} {s : Nat → Nat} {r : Raw}
/-- behind takePage -/
def tpF (r : Raw) (c p : Nat) : Nat → Nat → Bool := fun d => if d = c then upd (fuR r c p) (64 * p) false else r.F d
def tp4 (r : Raw) (c p : Nat) : Raw := ⟨zeroW r.W (64 * p) 64, setC r.S p (c : Int), tpF r c p, r.P, r.M, r.R, r.last⟩
def tpR (n : Nat) (r : Raw) (c p : Nat) : Raw := { tp4 r c p with W := linkR n (tp4 r c p) c }
set_option maxRecDepth 100000 in
set_option maxHeartbeats 2000000 in
theorem takePage_any (h : RawAt w lo hi s n cap r) {c : Nat} (hc : c < 8) :
    Calls Tryd.prog 80 #[.pointer (some ⟨s 14, 0, none⟩), .int .i64 (c : Int)] w fun e w' =>
      (match rowF r.S n 1 with
       | some p => e = .returned (.tuple #[.int .i64 ((64 * p : Nat) : Int), .agg #[.int .i64 0, .int .i64 0]]) ∧ RawAt w' lo hi s n cap (tpR n r c p)
       | none => e = .returned (.tuple #[.int .i64 0, .agg #[.int .i64 20, .int .i64 0]]) ∧ RawAt w' lo hi s n cap r) ∧ Out lo hi w w' := by
  have h0 : Out 0 0 w (w.alloc (.cells #[.int .i64 0, .int .i64 0] 57)) := (Out.refl 0 0 w).alloc _
  have HZ := hid_mk (fz_new w)
  have H0 := hid_mk h0
  have HK := hid_mk (raw_takeClass (h.quiet h0) c hc)
  obtain ⟨c0, c1, c2, c3, c4, c5⟩ := (h.quiet h0).cells
  have HT : Hid (hi ≤ w.heap.size ∧ 4 ≤ w.heap.size ∧ n ≤ 4096) := ⟨h.top, h.tab.lt, h.n2⟩
  have k2 : (0 : Int) ≤ (c : Int) := by omega
  have k3 : (c : Int) < 8 := by omega
  have HC := hid_mk hc
  cases hf : rowF r.S n 1 with
  | none =>
    rw [hf] at HK
    simp only [Option.getD_none, Option.isSome_none] at HK
    have e4 : ((20 : Int) != 0) = true := rfl
    clear h h0 hf hc
    go_enter Tryd.func80, Tryd.ntmps80
    go_wp2_with (first | (go_at_call 94; refine HK.out.mono ?_; rintro e w1 ⟨rfl, hr, ho⟩; obtain ⟨q4, q5, q6, q7⟩ := flt_facts (ho.heap HZ.out (.inr HT.out.1)); have HR1 := hid_mk hr; have HO := hid_mk ho; clear hr ho))
    refine retIF Tryd.results80 rfl rfl rfl (flt_set (HO.out.heap HZ.out (.inr HT.out.1))) ⟨⟨rfl, HR1.out.kept ((Out.refl w.heap.size (w.heap.size + 1) _).set2 (.inl ⟨Nat.le_refl _, Nat.lt_succ_self _⟩) _ _) (.inl HT.out.1) (.inl HT.out.2.1)⟩, ((H0.out.any lo hi).trans HO.out).set2 (.inr (Nat.le_refl _)) _ _⟩
  | some p =>
    rw [hf] at HK
    simp only [Option.getD_some, Option.isSome_some, if_true] at HK
    have hp := rowF_some hf
    have b0 : (0 : Int) ≤ (p : Int) := by omega
    have b1 : (p : Int) < 4096 := by have := HT.out; omega
    have HP : Hid (p < n) := hp.1
    have e4 : ((0 : Int) != 0) = false := rfl
    obtain ⟨o, cp, hsl, hol⟩ := islice_at (s 11) (64 * n) cap (p * 64) (p * 64 + 64) (by omega) (by have := h.capn; omega)
    rw [show ((p * 64 : Nat) : Int) = (p : Int) * 64 from by omega, show ((p * 64 + 64 : Nat) : Int) = (p : Int) * 64 + 64 from by omega, show p * 64 + 64 - p * 64 = 64 from by omega] at hsl
    have HOL : Hid (o = p * 64) := hol (by omega)
    have HA : Hid ((p : Int) * 64 = ((64 * p : Nat) : Int)) := by show _ = _; omega
    clear h h0 hf hp hol hc
    go_enter Tryd.func80, Tryd.ntmps80
    go_wp2_with (first
      | (go_at_call 94; refine HK.out.mono ?_; rintro e w1 ⟨rfl, hr, ho⟩; have HO1 := hid_mk ho; obtain ⟨w2, hcl, hr2, ho2⟩ := hr.clear (a := p * 64) (k := 64) (o := o) (cp := cp) (by have := HP.out; omega) (fun _ => HOL.out); have HR2 := hid_mk hr2; have HO2 := hid_mk (ho.trans (hr.wide (i := 11) (by omega) ho2)); obtain ⟨g0, g1, g2, g3, g4, g5⟩ := hr.cells; clear hr ho hr2 ho2)
      | (simp only [hcl])
      | (go_at_call 90; refine (freeUp_any HR2.out HC.out HP.out).mono ?_; rintro e w3 ⟨⟨v3, rfl⟩, hr, ho⟩; have HR3 := hid_mk hr; have HO3 := hid_mk (HO2.out.trans ho); have gF := hr.cellF HC.out; clear hr ho hcl g0 g1 g2 g3 g4 g5)
      | (go_at_call 81; refine (clear_any (HR3.out.free c HC.out) _).mono ?_; rintro e w4 ⟨rfl, hm, ho⟩; have HR4 := hid_mk (HR3.out.setF HC.out ho hm); have HO4 := hid_mk (HO3.out.trans (HR3.out.wide (i := c) (by have := HC.out; omega) (by unfold ln; rw [if_pos (by have := HC.out; omega)]; exact ho))); clear hm ho gF)
      | (go_at_call 91; refine (spLink_any HR4.out HC.out).mono ?_; rintro e w5 ⟨⟨v5, rfl⟩, hr, ho⟩; have HR5 := hid_mk hr; have HO5 := hid_mk (HO4.out.trans ho); obtain ⟨q4, q5, q6, q7⟩ := flt_facts ((HO4.out.trans ho).heap HZ.out (.inr HT.out.1)); clear hr ho))
    have hF : ∀ d, (if d = c then setS (if c = c then fuR r c p else r.F c) (64 * n) ((p : Int) * 64) false else if d = c then fuR r c p else r.F d) = tpF r c p d := by
      intro d
      unfold tpF
      by_cases e : d = c
      · rw [if_pos e, if_pos rfl, if_pos e, HA.out]
        unfold setS
        rw [if_pos (show inB (64 * n) ((64 * p : Nat) : Int) = true from by unfold inB; simp; have := HP.out; omega)]
        rfl
      · rw [if_neg e, if_neg e, if_neg e]
    have e4 : (⟨zeroW r.W (p * 64) 64, setC r.S p (c : Int), fun d => if d = c then setS (if c = c then fuR r c p else r.F c) (64 * n) ((p : Int) * 64) false else if d = c then fuR r c p else r.F d, r.P, r.M, r.R, r.last⟩ : Raw) = tp4 r c p :=
      Raw.eq (by rw [Nat.mul_comm p 64]; rfl) rfl (funext hF) rfl rfl rfl rfl
    have h5 := HR5.out
    simp only [if_true] at h5 e4
    have h6 : RawAt w5 lo hi s n cap (tpR n r c p) := by
      unfold tpR
      rw [← e4]
      exact h5
    refine retIF Tryd.results80 rfl rfl rfl (flt_set (HO5.out.heap HZ.out (.inr HT.out.1))) ⟨⟨ret_pg HA.out, h6.kept ((Out.refl w.heap.size (w.heap.size + 1) _).set2 (.inl ⟨Nat.le_refl _, Nat.lt_succ_self _⟩) _ _) (.inl HT.out.1) (.inl HT.out.2.1)⟩, ((H0.out.any lo hi).trans HO5.out).set2 (.inr (Nat.le_refl _)) _ _⟩
set_option maxRecDepth 100000 in
set_option maxHeartbeats 2000000 in
theorem takeBlock_any (h : RawAt w lo hi s n cap r) {c : Nat} (hc : c < 8) :
    Calls Tryd.prog 61 #[.pointer (some ⟨s 14, 0, none⟩), .int .i64 (c : Int)] w fun e w' =>
      ((nxr (r.F c) (64 * n) 0 = -1 ∧ (match rowF r.S n 1 with
       | some p => e = .returned (.tuple #[.int .i64 ((64 * p : Nat) : Int), .agg #[.int .i64 0, .int .i64 0]]) ∧ RawAt w' lo hi s n cap (tpR n r c p)
       | none => e = .returned (.tuple #[.int .i64 0, .agg #[.int .i64 20, .int .i64 0]]) ∧ RawAt w' lo hi s n cap r)) ∨
      (∃ a : Nat, nxr (r.F c) (64 * n) 0 = a ∧ a < 64 * n ∧ r.F c a = true ∧ r.W a = linkV (nxr (r.F c) (64 * n) (a + 1)) ∧ e = .returned (.tuple #[.int .i64 (a : Int), .agg #[.int .i64 0, .int .i64 0]]) ∧ RawAt w' lo hi s n cap { r with F := fun d => if d = c then upd (r.F c) a false else r.F d }) ∨
      (∃ a : Nat, nxr (r.F c) (64 * n) 0 = a ∧ a < 64 * n ∧ r.F c a = true ∧ r.W a ≠ linkV (nxr (r.F c) (64 * n) (a + 1)) ∧ e = .returned (.tuple #[.int .i64 0, .agg #[.int .i64 21, .int .i64 (a : Int)]]) ∧ RawAt w' lo hi s n cap r)) ∧ Out lo hi w w' := by
  have h0 : Out 0 0 w (w.alloc (.cells #[.int .i64 0, .int .i64 0] 57)) := (Out.refl 0 0 w).alloc _
  have HZ := hid_mk (fz_new w)
  have H0 := hid_mk h0
  have hq := h.quiet h0
  have HQ := hid_mk hq
  have cF := hq.cellF hc
  have HX := hid_mk (next_any (hq.free c hc) 0)
  rw [show (0 : Int).toNat = 0 from rfl] at HX
  have HT : Hid (hi ≤ w.heap.size ∧ 4 ≤ w.heap.size ∧ n ≤ 4096) := ⟨h.top, h.tab.lt, h.n2⟩
  have k2 : (0 : Int) ≤ (c : Int) := by omega
  have k3 : (c : Int) < 8 := by omega
  have HC := hid_mk hc
  rcases nxr_cases (r.F c) (64 * n) 0 with ⟨e1, e2⟩ | ⟨a, e1, a1, a2, a3, a4⟩
  · rw [e1] at HX
    have HE := hid_mk e1
    have HTP := hid_mk (fun w' (h' : RawAt w' lo hi s n cap r) => takePage_any h' hc)
    cases hf : rowF r.S n 1 with
    | none =>
      rw [hf] at HTP
      clear h h0 hf hc hq e1 e2
      go_enter Tryd.func61, Tryd.ntmps61
      go_wp2_with (first
        | (go_at_call 35; refine HX.out.mono ?_; rintro e w1 ⟨rfl, ho⟩; have HR1 := hid_mk (HQ.out.quiet ho); have HO1 := hid_mk (ho.any lo hi); clear ho)
        | (go_at_call 80; refine (HTP.out _ HR1.out).mono ?_; rintro e w2 ⟨⟨rfl, hr⟩, ho⟩; have HR2 := hid_mk hr; have HO2 := hid_mk (HO1.out.trans ho); obtain ⟨q4, q5, q6, q7⟩ := flt_facts ((HO1.out.trans ho).heap HZ.out (.inr HT.out.1)); clear hr ho))
      refine retIF Tryd.results61 rfl rfl rfl (flt_set (HO2.out.heap HZ.out (.inr HT.out.1))) ⟨.inl ⟨HE.out, rfl, HR2.out.kept ((Out.refl w.heap.size (w.heap.size + 1) _).set2 (.inl ⟨Nat.le_refl _, Nat.lt_succ_self _⟩) _ _) (.inl HT.out.1) (.inl HT.out.2.1)⟩, ((H0.out.any lo hi).trans HO2.out).set2 (.inr (Nat.le_refl _)) _ _⟩
    | some p =>
      rw [hf] at HTP
      clear h h0 hf hc hq e1 e2
      go_enter Tryd.func61, Tryd.ntmps61
      go_wp2_with (first
        | (go_at_call 35; refine HX.out.mono ?_; rintro e w1 ⟨rfl, ho⟩; have HR1 := hid_mk (HQ.out.quiet ho); have HO1 := hid_mk (ho.any lo hi); clear ho)
        | (go_at_call 80; refine (HTP.out _ HR1.out).mono ?_; rintro e w2 ⟨⟨rfl, hr⟩, ho⟩; have HR2 := hid_mk hr; have HO2 := hid_mk (HO1.out.trans ho); obtain ⟨q4, q5, q6, q7⟩ := flt_facts ((HO1.out.trans ho).heap HZ.out (.inr HT.out.1)); clear hr ho))
      refine retIF Tryd.results61 rfl rfl rfl (flt_set (HO2.out.heap HZ.out (.inr HT.out.1))) ⟨.inl ⟨HE.out, ret_pg (by first | rfl | simp), HR2.out.kept ((Out.refl w.heap.size (w.heap.size + 1) _).set2 (.inl ⟨Nat.le_refl _, Nat.lt_succ_self _⟩) _ _) (.inl HT.out.1) (.inl HT.out.2.1)⟩, ((H0.out.any lo hi).trans HO2.out).set2 (.inr (Nat.le_refl _)) _ _⟩
  · rw [e1] at HX
    have b0 : (0 : Int) ≤ (a : Int) := by omega
    have b1 : (a : Int) < 64 * (n : Int) := by omega
    have b2 : (a : Int) < ((64 * n : Nat) : Int) := by omega
    have b3 : ((64 * n : Nat) : Int) ≤ 262144 := by have := HT.out; omega
    have HA := hid_mk (And.intro e1 (And.intro a1 a3))
    have HWR : Hid (IntKind.i64.wrap ((a : Int) + 1) = (a : Int) + 1) := by show _ = _; simp [IntKind.wrap, IntKind.signed, IntKind.bits]; omega
    obtain ⟨z, hz⟩ : ∃ z, nxr (r.F c) (64 * n) (a + 1) = z := ⟨_, rfl⟩
    have HX2 := hid_mk (fun w' (h' : RawAt w' lo hi s n cap r) => next_any (h'.free c hc) ((a : Int) + 1))
    rw [show ((a : Int) + 1).toNat = a + 1 from by omega, hz] at HX2
    have HZZ := hid_mk hz
    by_cases hv : r.W a = linkV z
    · have hne : (r.W a != linkV z) = false := by simp [hv]
      have HV := hid_mk hv
      clear h h0 hc hq e1 a1 a2 a3 a4 hz hv
      go_enter Tryd.func61, Tryd.ntmps61
      go_wp2_with (first
        | (go_at_call 35; refine HX.out.mono ?_; rintro e w1 ⟨rfl, ho⟩; have HR1 := hid_mk (HQ.out.quiet ho); have HO1 := hid_mk (ho.any lo hi); have dF := (HQ.out.quiet ho).cellF HC.out; obtain ⟨d0, d1, d2, d3, d4, d5⟩ := (HQ.out.quiet ho).cells; have dW := (HQ.out.quiet ho).words.cell HA.out.2.1; clear ho cF))
      refine wp_region_held_drew (S := fun w' => w'.cell? ⟨s 14, 0, none⟩ = some (.slice (some ⟨s 11, 0, none⟩) (64 * n) cap) ∧ w'.cell? ⟨s 11, a, none⟩ = some (.int .i64 (r.W a)) ∧ w'.cell? ⟨s 14, 4 + c, none⟩ = some (.pointer (some ⟨s c + 1, 0, none⟩))) (by kernel_rfl) ?hS1 (fun hHeld => ?rest1)
      case hS1 => exact ⟨d0, dW, dF⟩
      refine wpAnyH_take (i := 0) (v := ?v2) rfl (by kernel_rfl) (by kernel_rfl) (by kernel_rfl) (fun _ _ _ h => h) (Or.inl ⟨by rfl, ?hy2⟩) (by assumption) ?rest2
      case hy2 => (intro w hSw; (try dsimp only at hSw); simp only [List.getElem_toArray, List.getElem_cons_zero, List.getElem_cons_succ]; go_simp; (try with_reducible rfl))
      (try simp only [Act.put, List.getElem_toArray, List.getElem_cons_zero, List.getElem_cons_succ, List.setIfInBounds_toArray, List.set_cons_zero, List.set_cons_succ])
      refine wpAnyH_take (i := 1) (v := ?v3) rfl (by kernel_rfl) (by kernel_rfl) (by kernel_rfl) (fun _ _ _ h => h) (Or.inl ⟨by rfl, ?hy3⟩) (by assumption) ?rest3
      case hy3 => (intro w hSw; (try dsimp only at hSw); simp only [List.getElem_toArray, List.getElem_cons_zero, List.getElem_cons_succ]; go_simp; (try with_reducible rfl))
      (try simp only [Act.put, List.getElem_toArray, List.getElem_cons_zero, List.getElem_cons_succ, List.setIfInBounds_toArray, List.set_cons_zero, List.set_cons_succ])
      refine wpAnyH_take (i := 2) (v := ?v4) rfl (by kernel_rfl) (by kernel_rfl) (by kernel_rfl) (fun _ _ _ h => h) (Or.inl ⟨by rfl, ?hy4⟩) (by assumption) ?rest4
      case hy4 => (intro w hSw; (try dsimp only at hSw); simp only [List.getElem_toArray, List.getElem_cons_zero, List.getElem_cons_succ]; go_simp; (try with_reducible rfl))
      (try simp only [Act.put, List.getElem_toArray, List.getElem_cons_zero, List.getElem_cons_succ, List.setIfInBounds_toArray, List.set_cons_zero, List.set_cons_succ])
      refine wpAnyH_take (i := 3) (v := ?v5) rfl (by kernel_rfl) (by kernel_rfl) (by kernel_rfl) (fun _ _ _ h => h) (Or.inl ⟨by rfl, ?hy5⟩) (by assumption) ?rest5
      case hy5 => (intro w hSw; (try dsimp only at hSw); simp only [List.getElem_toArray, List.getElem_cons_zero, List.getElem_cons_succ]; go_simp; (try with_reducible rfl))
      (try simp only [Act.put, List.getElem_toArray, List.getElem_cons_zero, List.getElem_cons_succ, List.setIfInBounds_toArray, List.set_cons_zero, List.set_cons_succ])
      refine wpAnyH_take (i := 4) (v := ?v6) rfl (by kernel_rfl) (by kernel_rfl) (by kernel_rfl) (fun _ _ _ h => h) (Or.inl ⟨by rfl, ?hy6⟩) (by assumption) ?rest6
      case hy6 => (intro w hSw; (try dsimp only at hSw); simp only [List.getElem_toArray, List.getElem_cons_zero, List.getElem_cons_succ]; go_simp; (try with_reducible rfl))
      (try simp only [Act.put, List.getElem_toArray, List.getElem_cons_zero, List.getElem_cons_succ, List.setIfInBounds_toArray, List.set_cons_zero, List.set_cons_succ])
      refine wpAnyH_take (i := 5) (v := ?v7) rfl (by kernel_rfl) (by kernel_rfl) (by kernel_rfl) (fun _ _ _ h => h) (Or.inl ⟨by rfl, ?hy7⟩) (by assumption) ?rest7
      case hy7 => (intro w hSw; (try dsimp only at hSw); simp only [List.getElem_toArray, List.getElem_cons_zero, List.getElem_cons_succ]; go_simp; (try with_reducible rfl))
      (try simp only [Act.put, List.getElem_toArray, List.getElem_cons_zero, List.getElem_cons_succ, List.setIfInBounds_toArray, List.set_cons_zero, List.set_cons_succ])
      refine wpAnyH_take (i := 6) (v := ?v8) rfl (by kernel_rfl) (by kernel_rfl) (by kernel_rfl) (fun _ _ _ h => h) (Or.inl ⟨by rfl, ?hy8⟩) (by assumption) ?rest8
      case hy8 => (intro w hSw; (try dsimp only at hSw); simp only [List.getElem_toArray, List.getElem_cons_zero, List.getElem_cons_succ]; go_simp; (try with_reducible rfl))
      (try simp only [Act.put, List.getElem_toArray, List.getElem_cons_zero, List.getElem_cons_succ, List.setIfInBounds_toArray, List.set_cons_zero, List.set_cons_succ])
      refine wpAnyH_take (i := 7) (v := ?v9) rfl (by kernel_rfl) (by kernel_rfl) (by kernel_rfl) (fun _ _ _ h => h) (Or.inl ⟨by rfl, ?hy9⟩) (by assumption) ?rest9
      case hy9 => (intro w hSw; (try dsimp only at hSw); simp only [List.getElem_toArray, List.getElem_cons_zero, List.getElem_cons_succ]; go_simp; (try with_reducible rfl))
      (try simp only [Act.put, List.getElem_toArray, List.getElem_cons_zero, List.getElem_cons_succ, List.setIfInBounds_toArray, List.set_cons_zero, List.set_cons_succ])
      refine wpAnyH_take (i := 8) (v := ?v10) rfl (by kernel_rfl) (by kernel_rfl) (by kernel_rfl) (fun _ _ _ h => h) (Or.inl ⟨by rfl, ?hy10⟩) (by assumption) ?rest10
      case hy10 => (intro w hSw; (try dsimp only at hSw); simp only [List.getElem_toArray, List.getElem_cons_zero, List.getElem_cons_succ]; go_simp; (try with_reducible rfl))
      (try simp only [Act.put, List.getElem_toArray, List.getElem_cons_zero, List.getElem_cons_succ, List.setIfInBounds_toArray, List.set_cons_zero, List.set_cons_succ])
      refine wpAnyH_take (i := 9) (v := ?v11) rfl (by kernel_rfl) (by kernel_rfl) (by kernel_rfl) (fun _ _ _ h => h) (Or.inl ⟨by rfl, ?hy11⟩) (by assumption) ?rest11
      case hy11 => (intro w hSw; (try dsimp only at hSw); simp only [List.getElem_toArray, List.getElem_cons_zero, List.getElem_cons_succ]; go_simp; (try with_reducible rfl))
      (try simp only [Act.put, List.getElem_toArray, List.getElem_cons_zero, List.getElem_cons_succ, List.setIfInBounds_toArray, List.set_cons_zero, List.set_cons_succ])
      refine wpAnyH_take (i := 10) (v := ?v12) rfl (by kernel_rfl) (by kernel_rfl) (by kernel_rfl) (fun _ _ _ h => h) (Or.inl ⟨by rfl, ?hy12⟩) (by assumption) ?rest12
      case hy12 => (intro w hSw; (try dsimp only at hSw); simp only [List.getElem_toArray, List.getElem_cons_zero, List.getElem_cons_succ]; go_simp; (try with_reducible rfl))
      (try simp only [Act.put, List.getElem_toArray, List.getElem_cons_zero, List.getElem_cons_succ, List.setIfInBounds_toArray, List.set_cons_zero, List.set_cons_succ])
      refine wpAnyH_take (i := 11) (v := ?v13) rfl (by kernel_rfl) (by kernel_rfl) (by kernel_rfl) (fun _ _ _ h => h) (Or.inl ⟨by rfl, ?hy13⟩) (by assumption) ?rest13
      case hy13 => (intro w hSw; (try dsimp only at hSw); simp only [List.getElem_toArray, List.getElem_cons_zero, List.getElem_cons_succ]; go_simp; (try with_reducible rfl))
      (try simp only [Act.put, List.getElem_toArray, List.getElem_cons_zero, List.getElem_cons_succ, List.setIfInBounds_toArray, List.set_cons_zero, List.set_cons_succ])
      refine wpAnyH_take (i := 12) (v := ?v14) rfl (by kernel_rfl) (by kernel_rfl) (by kernel_rfl) (fun _ _ _ h => h) (Or.inl ⟨by rfl, ?hy14⟩) (by assumption) ?rest14
      case hy14 => (intro w hSw; (try dsimp only at hSw); simp only [List.getElem_toArray, List.getElem_cons_zero, List.getElem_cons_succ]; go_simp; (try with_reducible rfl))
      (try simp only [Act.put, List.getElem_toArray, List.getElem_cons_zero, List.getElem_cons_succ, List.setIfInBounds_toArray, List.set_cons_zero, List.set_cons_succ])
      refine wpAnyH_take (i := 13) (v := ?v15) rfl (by kernel_rfl) (by kernel_rfl) (by kernel_rfl) (fun _ _ _ h => h) (Or.inl ⟨by rfl, ?hy15⟩) (by assumption) ?rest15
      case hy15 => (intro w hSw; (try dsimp only at hSw); simp only [List.getElem_toArray, List.getElem_cons_zero, List.getElem_cons_succ]; go_simp; (try with_reducible rfl))
      (try simp only [Act.put, List.getElem_toArray, List.getElem_cons_zero, List.getElem_cons_succ, List.setIfInBounds_toArray, List.set_cons_zero, List.set_cons_succ])
      refine wpAnyH_take (i := 14) (v := ?v16) rfl (by kernel_rfl) (by kernel_rfl) (by kernel_rfl) (fun _ _ _ h => h) (Or.inl ⟨by rfl, ?hy16⟩) (by assumption) ?rest16
      case hy16 => (intro w hSw; (try dsimp only at hSw); simp only [List.getElem_toArray, List.getElem_cons_zero, List.getElem_cons_succ]; go_simp; (try with_reducible rfl))
      (try simp only [Act.put, List.getElem_toArray, List.getElem_cons_zero, List.getElem_cons_succ, List.setIfInBounds_toArray, List.set_cons_zero, List.set_cons_succ])
      refine wpAnyH_ready (rs := [15]) (by kernel_rfl) (by simp) ?_
      refine AllReadyH.cons rfl (fun KK hK => ?_) AllReadyH.nil
      simp only [List.getElem_toArray, List.getElem_cons_zero, List.getElem_cons_succ]
      go_simp
      rw [HWR.out]
      refine (HX2.out _ (HR1.out.quiet ((Out.refl 0 0 _).drew))).mono ?_
      rintro e w2 ⟨rfl, hOO⟩
      refine hK.out _ _ ?hS17 (fun hHeld2 => ?rest17)
      case hS17 => exact ⟨hOO.cell hHeld.1 (.inr (Nat.zero_le _)), hOO.cell hHeld.2.1 (.inr (Nat.zero_le _)), hOO.cell hHeld.2.2 (.inr (Nat.zero_le _))⟩
      clear hK KK
      (try clear hHeld)
      have hHeld := hHeld2
      clear hHeld2
      (try simp only [Act.put, List.getElem_toArray, List.getElem_cons_zero, List.getElem_cons_succ, List.setIfInBounds_toArray, List.set_cons_zero, List.set_cons_succ])
      refine wpAnyH_ready (rs := [16]) (by kernel_rfl) (by simp) ?_
      refine AllReadyH.cons rfl (fun KK hK => ?_) AllReadyH.nil
      simp only [List.getElem_toArray, List.getElem_cons_zero, List.getElem_cons_succ]
      go_simp
      refine (link_at z _).mono ?_
      rintro e w3 ⟨rfl, rfl⟩
      refine hK.out _ _ ?hS18 (fun hHeld2 => ?rest18)
      case hS18 => exact hHeld
      clear hK KK
      (try clear hHeld)
      have hHeld := hHeld2
      clear hHeld2
      (try simp only [Act.put, List.getElem_toArray, List.getElem_cons_zero, List.getElem_cons_succ, List.setIfInBounds_toArray, List.set_cons_zero, List.set_cons_succ])
      refine wpAnyH_take (i := 17) (v := ?v19) rfl (by kernel_rfl) (by kernel_rfl) (by kernel_rfl) (fun _ _ _ h => h) (Or.inl ⟨by rfl, ?hy19⟩) (by assumption) ?rest19
      case hy19 => (intro w hSw; (try dsimp only at hSw); simp only [List.getElem_toArray, List.getElem_cons_zero, List.getElem_cons_succ]; go_simp; (try with_reducible rfl))
      (try simp only [Act.put, List.getElem_toArray, List.getElem_cons_zero, List.getElem_cons_succ, List.setIfInBounds_toArray, List.set_cons_zero, List.set_cons_succ])
      refine wpAnyH_done (by kernel_rfl) ?_ _
      clear hHeld d0 d1 d2 d3 d4 d5 dW dF
      have HO2 := hid_mk (HO1.out.trans (((Out.refl 0 0 w1).drew).trans hOO |>.any lo hi))
      have HR2 := hid_mk (HR1.out.quiet (((Out.refl 0 0 w1).drew).trans hOO))
      have gF := HR2.out.cellF HC.out
      obtain ⟨q4, q5, q6, q7⟩ := flt_facts (HO2.out.heap HZ.out (.inr HT.out.1))
      clear hOO
      all_goals go_wp2_with (first
        | (go_at_call 81; refine (clear_any (HR2.out.free c HC.out) _).mono ?_; rintro e w4 ⟨rfl, hm, ho⟩; have HR4 := hid_mk (HR2.out.setF HC.out ho hm); have HO4 := hid_mk (HO2.out.trans (HR2.out.wide (i := c) (by have := HC.out; omega) (by unfold ln; rw [if_pos (by have := HC.out; omega)]; exact ho))); obtain ⟨t4, t5, t6, t7⟩ := flt_facts (HO4.out.heap HZ.out (.inr HT.out.1)); clear hm ho gF q4 q5 q6 q7))
      all_goals
        have h4 : RawAt w4 lo hi s n cap { r with F := fun d => if d = c then upd (r.F c) a false else r.F d } := by
          refine HR4.out.congr (Raw.eq rfl rfl (funext fun d => ?_) rfl rfl rfl rfl)
          by_cases e : d = c
          · simp only [e, if_true]
            unfold setS
            rw [if_pos (show inB (64 * n) (a : Int) = true from by unfold inB; simp; have := HA.out.2.1; omega)]
            rfl
          · simp only [e, if_false]
        refine retIF Tryd.results61 rfl rfl rfl (flt_set (HO4.out.heap HZ.out (.inr HT.out.1))) ⟨.inr (.inl ⟨a, HA.out.1, HA.out.2.1, HA.out.2.2, by rw [HZZ.out]; exact HV.out, rfl, h4.kept ((Out.refl w.heap.size (w.heap.size + 1) _).set2 (.inl ⟨Nat.le_refl _, Nat.lt_succ_self _⟩) _ _) (.inl HT.out.1) (.inl HT.out.2.1)⟩), ((H0.out.any lo hi).trans HO4.out).set2 (.inr (Nat.le_refl _)) _ _⟩
    · have hne : (r.W a != linkV z) = true := by simp [hv]
      have HV := hid_mk hv
      clear h h0 hc hq e1 a1 a2 a3 a4 hz hv
      go_enter Tryd.func61, Tryd.ntmps61
      go_wp2_with (first
        | (go_at_call 35; refine HX.out.mono ?_; rintro e w1 ⟨rfl, ho⟩; have HR1 := hid_mk (HQ.out.quiet ho); have HO1 := hid_mk (ho.any lo hi); have dF := (HQ.out.quiet ho).cellF HC.out; obtain ⟨d0, d1, d2, d3, d4, d5⟩ := (HQ.out.quiet ho).cells; have dW := (HQ.out.quiet ho).words.cell HA.out.2.1; clear ho cF))
      refine wp_region_held_drew (S := fun w' => w'.cell? ⟨s 14, 0, none⟩ = some (.slice (some ⟨s 11, 0, none⟩) (64 * n) cap) ∧ w'.cell? ⟨s 11, a, none⟩ = some (.int .i64 (r.W a)) ∧ w'.cell? ⟨s 14, 4 + c, none⟩ = some (.pointer (some ⟨s c + 1, 0, none⟩))) (by kernel_rfl) ?hS20 (fun hHeld => ?rest20)
      case hS20 => exact ⟨d0, dW, dF⟩
      refine wpAnyH_take (i := 0) (v := ?v21) rfl (by kernel_rfl) (by kernel_rfl) (by kernel_rfl) (fun _ _ _ h => h) (Or.inl ⟨by rfl, ?hy21⟩) (by assumption) ?rest21
      case hy21 => (intro w hSw; (try dsimp only at hSw); simp only [List.getElem_toArray, List.getElem_cons_zero, List.getElem_cons_succ]; go_simp; (try with_reducible rfl))
      (try simp only [Act.put, List.getElem_toArray, List.getElem_cons_zero, List.getElem_cons_succ, List.setIfInBounds_toArray, List.set_cons_zero, List.set_cons_succ])
      refine wpAnyH_take (i := 1) (v := ?v22) rfl (by kernel_rfl) (by kernel_rfl) (by kernel_rfl) (fun _ _ _ h => h) (Or.inl ⟨by rfl, ?hy22⟩) (by assumption) ?rest22
      case hy22 => (intro w hSw; (try dsimp only at hSw); simp only [List.getElem_toArray, List.getElem_cons_zero, List.getElem_cons_succ]; go_simp; (try with_reducible rfl))
      (try simp only [Act.put, List.getElem_toArray, List.getElem_cons_zero, List.getElem_cons_succ, List.setIfInBounds_toArray, List.set_cons_zero, List.set_cons_succ])
      refine wpAnyH_take (i := 2) (v := ?v23) rfl (by kernel_rfl) (by kernel_rfl) (by kernel_rfl) (fun _ _ _ h => h) (Or.inl ⟨by rfl, ?hy23⟩) (by assumption) ?rest23
      case hy23 => (intro w hSw; (try dsimp only at hSw); simp only [List.getElem_toArray, List.getElem_cons_zero, List.getElem_cons_succ]; go_simp; (try with_reducible rfl))
      (try simp only [Act.put, List.getElem_toArray, List.getElem_cons_zero, List.getElem_cons_succ, List.setIfInBounds_toArray, List.set_cons_zero, List.set_cons_succ])
      refine wpAnyH_take (i := 3) (v := ?v24) rfl (by kernel_rfl) (by kernel_rfl) (by kernel_rfl) (fun _ _ _ h => h) (Or.inl ⟨by rfl, ?hy24⟩) (by assumption) ?rest24
      case hy24 => (intro w hSw; (try dsimp only at hSw); simp only [List.getElem_toArray, List.getElem_cons_zero, List.getElem_cons_succ]; go_simp; (try with_reducible rfl))
      (try simp only [Act.put, List.getElem_toArray, List.getElem_cons_zero, List.getElem_cons_succ, List.setIfInBounds_toArray, List.set_cons_zero, List.set_cons_succ])
      refine wpAnyH_take (i := 4) (v := ?v25) rfl (by kernel_rfl) (by kernel_rfl) (by kernel_rfl) (fun _ _ _ h => h) (Or.inl ⟨by rfl, ?hy25⟩) (by assumption) ?rest25
      case hy25 => (intro w hSw; (try dsimp only at hSw); simp only [List.getElem_toArray, List.getElem_cons_zero, List.getElem_cons_succ]; go_simp; (try with_reducible rfl))
      (try simp only [Act.put, List.getElem_toArray, List.getElem_cons_zero, List.getElem_cons_succ, List.setIfInBounds_toArray, List.set_cons_zero, List.set_cons_succ])
      refine wpAnyH_take (i := 5) (v := ?v26) rfl (by kernel_rfl) (by kernel_rfl) (by kernel_rfl) (fun _ _ _ h => h) (Or.inl ⟨by rfl, ?hy26⟩) (by assumption) ?rest26
      case hy26 => (intro w hSw; (try dsimp only at hSw); simp only [List.getElem_toArray, List.getElem_cons_zero, List.getElem_cons_succ]; go_simp; (try with_reducible rfl))
      (try simp only [Act.put, List.getElem_toArray, List.getElem_cons_zero, List.getElem_cons_succ, List.setIfInBounds_toArray, List.set_cons_zero, List.set_cons_succ])
      refine wpAnyH_take (i := 6) (v := ?v27) rfl (by kernel_rfl) (by kernel_rfl) (by kernel_rfl) (fun _ _ _ h => h) (Or.inl ⟨by rfl, ?hy27⟩) (by assumption) ?rest27
      case hy27 => (intro w hSw; (try dsimp only at hSw); simp only [List.getElem_toArray, List.getElem_cons_zero, List.getElem_cons_succ]; go_simp; (try with_reducible rfl))
      (try simp only [Act.put, List.getElem_toArray, List.getElem_cons_zero, List.getElem_cons_succ, List.setIfInBounds_toArray, List.set_cons_zero, List.set_cons_succ])
      refine wpAnyH_take (i := 7) (v := ?v28) rfl (by kernel_rfl) (by kernel_rfl) (by kernel_rfl) (fun _ _ _ h => h) (Or.inl ⟨by rfl, ?hy28⟩) (by assumption) ?rest28
      case hy28 => (intro w hSw; (try dsimp only at hSw); simp only [List.getElem_toArray, List.getElem_cons_zero, List.getElem_cons_succ]; go_simp; (try with_reducible rfl))
      (try simp only [Act.put, List.getElem_toArray, List.getElem_cons_zero, List.getElem_cons_succ, List.setIfInBounds_toArray, List.set_cons_zero, List.set_cons_succ])
      refine wpAnyH_take (i := 8) (v := ?v29) rfl (by kernel_rfl) (by kernel_rfl) (by kernel_rfl) (fun _ _ _ h => h) (Or.inl ⟨by rfl, ?hy29⟩) (by assumption) ?rest29
      case hy29 => (intro w hSw; (try dsimp only at hSw); simp only [List.getElem_toArray, List.getElem_cons_zero, List.getElem_cons_succ]; go_simp; (try with_reducible rfl))
      (try simp only [Act.put, List.getElem_toArray, List.getElem_cons_zero, List.getElem_cons_succ, List.setIfInBounds_toArray, List.set_cons_zero, List.set_cons_succ])
      refine wpAnyH_take (i := 9) (v := ?v30) rfl (by kernel_rfl) (by kernel_rfl) (by kernel_rfl) (fun _ _ _ h => h) (Or.inl ⟨by rfl, ?hy30⟩) (by assumption) ?rest30
      case hy30 => (intro w hSw; (try dsimp only at hSw); simp only [List.getElem_toArray, List.getElem_cons_zero, List.getElem_cons_succ]; go_simp; (try with_reducible rfl))
      (try simp only [Act.put, List.getElem_toArray, List.getElem_cons_zero, List.getElem_cons_succ, List.setIfInBounds_toArray, List.set_cons_zero, List.set_cons_succ])
      refine wpAnyH_take (i := 10) (v := ?v31) rfl (by kernel_rfl) (by kernel_rfl) (by kernel_rfl) (fun _ _ _ h => h) (Or.inl ⟨by rfl, ?hy31⟩) (by assumption) ?rest31
      case hy31 => (intro w hSw; (try dsimp only at hSw); simp only [List.getElem_toArray, List.getElem_cons_zero, List.getElem_cons_succ]; go_simp; (try with_reducible rfl))
      (try simp only [Act.put, List.getElem_toArray, List.getElem_cons_zero, List.getElem_cons_succ, List.setIfInBounds_toArray, List.set_cons_zero, List.set_cons_succ])
      refine wpAnyH_take (i := 11) (v := ?v32) rfl (by kernel_rfl) (by kernel_rfl) (by kernel_rfl) (fun _ _ _ h => h) (Or.inl ⟨by rfl, ?hy32⟩) (by assumption) ?rest32
      case hy32 => (intro w hSw; (try dsimp only at hSw); simp only [List.getElem_toArray, List.getElem_cons_zero, List.getElem_cons_succ]; go_simp; (try with_reducible rfl))
      (try simp only [Act.put, List.getElem_toArray, List.getElem_cons_zero, List.getElem_cons_succ, List.setIfInBounds_toArray, List.set_cons_zero, List.set_cons_succ])
      refine wpAnyH_take (i := 12) (v := ?v33) rfl (by kernel_rfl) (by kernel_rfl) (by kernel_rfl) (fun _ _ _ h => h) (Or.inl ⟨by rfl, ?hy33⟩) (by assumption) ?rest33
      case hy33 => (intro w hSw; (try dsimp only at hSw); simp only [List.getElem_toArray, List.getElem_cons_zero, List.getElem_cons_succ]; go_simp; (try with_reducible rfl))
      (try simp only [Act.put, List.getElem_toArray, List.getElem_cons_zero, List.getElem_cons_succ, List.setIfInBounds_toArray, List.set_cons_zero, List.set_cons_succ])
      refine wpAnyH_take (i := 13) (v := ?v34) rfl (by kernel_rfl) (by kernel_rfl) (by kernel_rfl) (fun _ _ _ h => h) (Or.inl ⟨by rfl, ?hy34⟩) (by assumption) ?rest34
      case hy34 => (intro w hSw; (try dsimp only at hSw); simp only [List.getElem_toArray, List.getElem_cons_zero, List.getElem_cons_succ]; go_simp; (try with_reducible rfl))
      (try simp only [Act.put, List.getElem_toArray, List.getElem_cons_zero, List.getElem_cons_succ, List.setIfInBounds_toArray, List.set_cons_zero, List.set_cons_succ])
      refine wpAnyH_take (i := 14) (v := ?v35) rfl (by kernel_rfl) (by kernel_rfl) (by kernel_rfl) (fun _ _ _ h => h) (Or.inl ⟨by rfl, ?hy35⟩) (by assumption) ?rest35
      case hy35 => (intro w hSw; (try dsimp only at hSw); simp only [List.getElem_toArray, List.getElem_cons_zero, List.getElem_cons_succ]; go_simp; (try with_reducible rfl))
      (try simp only [Act.put, List.getElem_toArray, List.getElem_cons_zero, List.getElem_cons_succ, List.setIfInBounds_toArray, List.set_cons_zero, List.set_cons_succ])
      refine wpAnyH_ready (rs := [15]) (by kernel_rfl) (by simp) ?_
      refine AllReadyH.cons rfl (fun KK hK => ?_) AllReadyH.nil
      simp only [List.getElem_toArray, List.getElem_cons_zero, List.getElem_cons_succ]
      go_simp
      rw [HWR.out]
      refine (HX2.out _ (HR1.out.quiet ((Out.refl 0 0 _).drew))).mono ?_
      rintro e w2 ⟨rfl, hOO⟩
      refine hK.out _ _ ?hS36 (fun hHeld2 => ?rest36)
      case hS36 => exact ⟨hOO.cell hHeld.1 (.inr (Nat.zero_le _)), hOO.cell hHeld.2.1 (.inr (Nat.zero_le _)), hOO.cell hHeld.2.2 (.inr (Nat.zero_le _))⟩
      clear hK KK
      (try clear hHeld)
      have hHeld := hHeld2
      clear hHeld2
      (try simp only [Act.put, List.getElem_toArray, List.getElem_cons_zero, List.getElem_cons_succ, List.setIfInBounds_toArray, List.set_cons_zero, List.set_cons_succ])
      refine wpAnyH_ready (rs := [16]) (by kernel_rfl) (by simp) ?_
      refine AllReadyH.cons rfl (fun KK hK => ?_) AllReadyH.nil
      simp only [List.getElem_toArray, List.getElem_cons_zero, List.getElem_cons_succ]
      go_simp
      refine (link_at z _).mono ?_
      rintro e w3 ⟨rfl, rfl⟩
      refine hK.out _ _ ?hS37 (fun hHeld2 => ?rest37)
      case hS37 => exact hHeld
      clear hK KK
      (try clear hHeld)
      have hHeld := hHeld2
      clear hHeld2
      (try simp only [Act.put, List.getElem_toArray, List.getElem_cons_zero, List.getElem_cons_succ, List.setIfInBounds_toArray, List.set_cons_zero, List.set_cons_succ])
      refine wpAnyH_take (i := 17) (v := ?v38) rfl (by kernel_rfl) (by kernel_rfl) (by kernel_rfl) (fun _ _ _ h => h) (Or.inl ⟨by rfl, ?hy38⟩) (by assumption) ?rest38
      case hy38 => (intro w hSw; (try dsimp only at hSw); simp only [List.getElem_toArray, List.getElem_cons_zero, List.getElem_cons_succ]; go_simp; (try with_reducible rfl))
      (try simp only [Act.put, List.getElem_toArray, List.getElem_cons_zero, List.getElem_cons_succ, List.setIfInBounds_toArray, List.set_cons_zero, List.set_cons_succ])
      refine wpAnyH_done (by kernel_rfl) ?_ _
      clear hHeld d0 d1 d2 d3 d4 d5 dW dF
      have HO2 := hid_mk (HO1.out.trans (((Out.refl 0 0 w1).drew).trans hOO |>.any lo hi))
      have HR2 := hid_mk (HR1.out.quiet (((Out.refl 0 0 w1).drew).trans hOO))
      have gF := HR2.out.cellF HC.out
      obtain ⟨q4, q5, q6, q7⟩ := flt_facts (HO2.out.heap HZ.out (.inr HT.out.1))
      clear hOO
      all_goals go_wp2
      all_goals
        refine retIF Tryd.results61 rfl rfl rfl (flt_set (HO2.out.heap HZ.out (.inr HT.out.1))) ⟨.inr (.inr ⟨a, HA.out.1, HA.out.2.1, HA.out.2.2, by rw [HZZ.out]; exact HV.out, rfl, HR2.out.kept ((Out.refl w.heap.size (w.heap.size + 1) _).set2 (.inl ⟨Nat.le_refl _, Nat.lt_succ_self _⟩) _ _) (.inl HT.out.1) (.inl HT.out.2.1)⟩), ((H0.out.any lo hi).trans HO2.out).set2 (.inr (Nat.le_refl _)) _ _⟩
end
end Go.Proofs.YtjbbkeoolodeaabDoor
namespace Go.Proofs.YtjbbkeoolodeaabDoor
open Go.RowKit
set_option linter.unusedVariables false
set_option linter.unusedSimpArgs false

def enR (r : Raw) (a : Nat) (k z x t : Int) : Raw :=
  { r with W := updW (zeroW r.W a (roomN z)) a (makeV a k z), P := upd r.P a true, M := fun i => if i = (a : Int) then some (k, z, x, t) else r.M i, R := if 0 < x then (fun i => if i = x then some (a : Int) else r.R i) else r.R }
section
variable {w : World} {lo hi n cap : Nat} {s : Nat → Nat} {r : Raw}
theorem mapM_put (M : Int → Option Blk) (a : Int) (b : Blk) : (fun y => if y = a then some (blkV a b) else mapM M y) = mapM (fun i => if i = a then some b else M i) := by
  funext y
  unfold mapM
  by_cases e : y = a
  · subst e; simp
  · simp [e]
theorem mapR_put (R : Int → Option Int) (a : Int) (b : Int) : (fun y => if y = a then some (.int .i64 b) else mapR R y) = mapR (fun i => if i = a then some b else R i) := by
  funext y
  unfold mapR
  by_cases e : y = a
  · subst e; simp
  · simp [e]
set_option maxRecDepth 100000 in
set_option maxHeartbeats 4000000 in
theorem enter_any (h : RawAt w lo hi s n cap r) {a : Nat} {k z x t : Int} (z1 : 1 ≤ z) (z2 : z ≤ 1024) (hk : a + roomN z ≤ 64 * n) (ha : a < 64 * n) :
    Calls Tryd.prog 40 #[.pointer (some ⟨s 14, 0, none⟩), .agg #[.int .i64 (a : Int), .int .i64 k, .int .i64 z, .int .i64 x, .int .i64 t]] w fun e w' => (∃ v, e = .returned v) ∧ RawAt w' lo hi s n cap (enR r a k z x t) ∧ Out lo hi w w' := by
  have h0 : Out 0 0 w (w.alloc (bo (a : Int) k z x t)) := (Out.refl 0 0 w).alloc _
  have hq := h.quiet h0
  have HQ := hid_mk hq
  have H0 := hid_mk h0
  have HBX : Hid ((w.alloc (bo (a : Int) k z x t)).heap[w.heap.size]? = some (bo (a : Int) k z x t)) := heap_alloc_new _ _
  have HD : Hid (hi ≤ w.heap.size ∧ 4 ≤ w.heap.size ∧ n ≤ 4096 ∧ (s 12 < hi ∧ s 13 < hi ∧ s 11 < hi ∧ s 8 + 2 ≤ hi ∧ s 14 < hi) ∧ (s 14 < s 12 ∨ s 12 + 1 ≤ s 14) ∧ (s 14 < s 13 ∨ s 13 + 1 ≤ s 14) ∧ (s 14 < s 11 ∨ s 11 + 1 ≤ s 14) ∧ (s 14 < s 8 ∨ s 8 + 2 ≤ s 14)) := by
    have i12 := h.inn 12 (by omega)
    have i13 := h.inn 13 (by omega)
    have i11 := h.inn 11 (by omega)
    have i8 := h.inn 8 (by omega)
    have i14 := h.inn 14 (by omega)
    have a12 := h.apart 12 14 (by omega) (by omega) (by omega)
    have a13 := h.apart 13 14 (by omega) (by omega) (by omega)
    have a11 := h.apart 11 14 (by omega) (by omega) (by omega)
    have a8 := h.apart 8 14 (by omega) (by omega) (by omega)
    simp [ln] at i12 i13 i11 i8 i14 a12 a13 a11 a8
    exact ⟨h.top, h.tab.lt, h.n2, by omega, by omega, by omega, by omega, by omega⟩
  obtain ⟨o, cp, hsl, hol⟩ := islice_at (s 11) (64 * n) cap a (a + roomN z) (by omega) (by have := h.capn; omega)
  have hwr : IntKind.i64.wrap ((a : Int) + ((roomN z : Nat) : Int)) = ((a + roomN z : Nat) : Int) := by simp [IntKind.wrap, IntKind.signed, IntKind.bits]; have := HD.out.2.2.1; omega
  rw [← hwr, show a + roomN z - a = roomN z from by omega] at hsl
  have HK : Hid (a + roomN z ≤ 64 * n ∧ (0 < roomN z → o = a) ∧ a < 64 * n) := ⟨hk, (by rw [show a + roomN z - a = roomN z from by omega] at hol; exact hol), ha⟩
  have HRoom := hid_mk (fun w' => room_any z z1 z2 w')
  have HM := hid_mk (fun w' => hmake_any (a : Int) k z w')
  have b0 : (0 : Int) ≤ (a : Int) := by omega
  have b1 : (a : Int) < 64 * (n : Int) := by omega
  have b2 : (a : Int) < ((64 * n : Nat) : Int) := by omega
  have b3 : ((64 * n : Nat) : Int) ≤ 262144 := by have := HD.out.2.2.1; omega
  obtain ⟨d0, d1, d2, d3, d4, d5⟩ := hq.cells
  obtain ⟨q0, q1, q2, q3, q4⟩ := bo_facts HBX.out
  have hqd := hq.quiet ((Out.refl 0 0 _).drew)
  obtain ⟨wM, hmu, hmM, hoM⟩ := mp_put Tryd.underlying77 Tryd.underlying3 hqd.objs (a : Int) (.agg #[.int .i64 (a : Int), .int .i64 k, .int .i64 z, .int .i64 x, .int .i64 t])
  have HRM0 := hid_mk (hqd.setM (M' := fun i => if i = (a : Int) then some (k, z, x, t) else r.M i) hoM (by rw [← mapM_put]; exact hmM))
  unfold bo at *
  clear h h0 hq hqd hk ha z1 z2 hwr hol hmM
  go_enter Tryd.func40, Tryd.ntmps40
  go_wp2_with fail
  refine wp_region_held_drew (S := fun w' => w'.cell? ⟨s 14, 2, none⟩ = some (.map (some (s 12))) ∧ w'.cell? ⟨w.heap.size, 0, none⟩ = some (.int .i64 (a : Int)) ∧ w'.cell? ⟨w.heap.size, 1, none⟩ = some (.int .i64 k) ∧ w'.cell? ⟨w.heap.size, 2, none⟩ = some (.int .i64 z) ∧ w'.cell? ⟨w.heap.size, 3, none⟩ = some (.int .i64 x) ∧ w'.cell? ⟨w.heap.size, 4, none⟩ = some (.int .i64 t)) (by kernel_rfl) ?hS1 (fun hHeld => ?rest1)
  case hS1 => exact ⟨d2, q0, q1, q2, q3, q4⟩
  refine wpAnyH_take (i := 0) (v := ?v2) rfl (by kernel_rfl) (by kernel_rfl) (by kernel_rfl) (fun _ _ _ h => h) (Or.inl ⟨by rfl, ?hy2⟩) (by assumption) ?rest2
  case hy2 => (intro w hSw; (try dsimp only at hSw); simp only [List.getElem_toArray, List.getElem_cons_zero, List.getElem_cons_succ]; go_simp; (try with_reducible rfl))
  (try simp only [Act.put, List.getElem_toArray, List.getElem_cons_zero, List.getElem_cons_succ, List.setIfInBounds_toArray, List.set_cons_zero, List.set_cons_succ])
  refine wpAnyH_take (i := 1) (v := ?v3) rfl (by kernel_rfl) (by kernel_rfl) (by kernel_rfl) (fun _ _ _ h => h) (Or.inl ⟨by rfl, ?hy3⟩) (by assumption) ?rest3
  case hy3 => (intro w hSw; (try dsimp only at hSw); simp only [List.getElem_toArray, List.getElem_cons_zero, List.getElem_cons_succ]; go_simp; (try with_reducible rfl))
  (try simp only [Act.put, List.getElem_toArray, List.getElem_cons_zero, List.getElem_cons_succ, List.setIfInBounds_toArray, List.set_cons_zero, List.set_cons_succ])
  refine wpAnyH_take (i := 2) (v := ?v4) rfl (by kernel_rfl) (by kernel_rfl) (by kernel_rfl) (fun _ _ _ h => h) (Or.inl ⟨by rfl, ?hy4⟩) (by assumption) ?rest4
  case hy4 => (intro w hSw; (try dsimp only at hSw); simp only [List.getElem_toArray, List.getElem_cons_zero, List.getElem_cons_succ]; go_simp; (try with_reducible rfl))
  (try simp only [Act.put, List.getElem_toArray, List.getElem_cons_zero, List.getElem_cons_succ, List.setIfInBounds_toArray, List.set_cons_zero, List.set_cons_succ])
  refine wpAnyH_take (i := 3) (v := ?v5) rfl (by kernel_rfl) (by kernel_rfl) (by kernel_rfl) (fun _ _ _ h => h) (Or.inl ⟨by rfl, ?hy5⟩) (by assumption) ?rest5
  case hy5 => (intro w hSw; (try dsimp only at hSw); simp only [List.getElem_toArray, List.getElem_cons_zero, List.getElem_cons_succ]; go_simp; (try with_reducible rfl))
  (try simp only [Act.put, List.getElem_toArray, List.getElem_cons_zero, List.getElem_cons_succ, List.setIfInBounds_toArray, List.set_cons_zero, List.set_cons_succ])
  refine wpAnyH_take (i := 4) (v := ?v6) rfl (by kernel_rfl) (by kernel_rfl) (by kernel_rfl) (fun _ _ _ h => h) (Or.inl ⟨by rfl, ?hy6⟩) (by assumption) ?rest6
  case hy6 => (intro w hSw; (try dsimp only at hSw); simp only [List.getElem_toArray, List.getElem_cons_zero, List.getElem_cons_succ]; go_simp; (try with_reducible rfl))
  (try simp only [Act.put, List.getElem_toArray, List.getElem_cons_zero, List.getElem_cons_succ, List.setIfInBounds_toArray, List.set_cons_zero, List.set_cons_succ])
  refine wpAnyH_take (i := 5) (v := ?v7) rfl (by kernel_rfl) (by kernel_rfl) (by kernel_rfl) (fun _ _ _ h => h) (Or.inl ⟨by rfl, ?hy7⟩) (by assumption) ?rest7
  case hy7 => (intro w hSw; (try dsimp only at hSw); simp only [List.getElem_toArray, List.getElem_cons_zero, List.getElem_cons_succ]; go_simp; (try with_reducible rfl))
  (try simp only [Act.put, List.getElem_toArray, List.getElem_cons_zero, List.getElem_cons_succ, List.setIfInBounds_toArray, List.set_cons_zero, List.set_cons_succ])
  refine wpAnyH_take (i := 6) (v := ?v8) rfl (by kernel_rfl) (by kernel_rfl) (by kernel_rfl) (fun _ _ _ h => h) (Or.inl ⟨by rfl, ?hy8⟩) (by assumption) ?rest8
  case hy8 => (intro w hSw; (try dsimp only at hSw); simp only [List.getElem_toArray, List.getElem_cons_zero, List.getElem_cons_succ]; go_simp; (try with_reducible rfl))
  (try simp only [Act.put, List.getElem_toArray, List.getElem_cons_zero, List.getElem_cons_succ, List.setIfInBounds_toArray, List.set_cons_zero, List.set_cons_succ])
  refine wpAnyH_ready (rs := [7]) (by kernel_rfl) (by simp) ?_
  refine AllReadyH.cons rfl (fun KK hK => ?_) AllReadyH.nil
  simp only [List.getElem_toArray, List.getElem_cons_zero, List.getElem_cons_succ]
  go_simp
  refine hK.out _ _ ?hS9 (fun hHeld2 => ?rest9)
  case hS9 => exact ⟨hoM.cell hHeld.1 (by have := HD.out; omega), hoM.cell hHeld.2.1 (by have := HD.out; omega), hoM.cell hHeld.2.2.1 (by have := HD.out; omega), hoM.cell hHeld.2.2.2.1 (by have := HD.out; omega), hoM.cell hHeld.2.2.2.2.1 (by have := HD.out; omega), hoM.cell hHeld.2.2.2.2.2 (by have := HD.out; omega)⟩
  clear hK KK
  (try clear hHeld)
  have hHeld := hHeld2
  clear hHeld2
  (try simp only [Act.put, List.getElem_toArray, List.getElem_cons_zero, List.getElem_cons_succ, List.setIfInBounds_toArray, List.set_cons_zero, List.set_cons_succ])
  refine wpAnyH_done (by kernel_rfl) ?_ _
  clear hHeld
  have ho1 : Out lo hi (w.alloc (.cells #[.int .i64 (a : Int), .int .i64 k, .int .i64 z, .int .i64 x, .int .i64 t] 36)) wM := (((Out.refl 0 0 _).drew).any lo hi).trans (HQ.out.quiet ((Out.refl 0 0 _).drew) |>.wide (i := 12) (by omega) hoM)
  have HO1 := hid_mk ho1
  have HRM := hid_mk (HRM0.out.quiet ((Out.refl 0 0 _).drew))
  have HBM := hid_mk (ho1.heap HBX.out (.inr HD.out.1))
  clear d0 d1 d2 d3 d4 d5 q0 q1 q2 q3 q4 hmu hoM ho1
  obtain ⟨d0, d1, d2, d3, d4, d5⟩ := HRM0.out.cells
  obtain ⟨q0, q1, q2, q3, q4⟩ := bo_facts HBM.out
  go_wp2_with fail
  refine wp_region_held_drew (S := fun w' => w'.cell? ⟨s 14, 3, none⟩ = some (.pointer (some ⟨s 8 + 1, 0, none⟩)) ∧ w'.cell? ⟨w.heap.size, 0, none⟩ = some (.int .i64 (a : Int)) ∧ w'.cell? ⟨w.heap.size, 1, none⟩ = some (.int .i64 k) ∧ w'.cell? ⟨w.heap.size, 2, none⟩ = some (.int .i64 z) ∧ w'.cell? ⟨w.heap.size, 3, none⟩ = some (.int .i64 x) ∧ w'.cell? ⟨w.heap.size, 4, none⟩ = some (.int .i64 t)) (by kernel_rfl) ?hS10 (fun hHeld => ?rest10)
  case hS10 => exact ⟨d3, q0, q1, q2, q3, q4⟩
  refine wpAnyH_take (i := 0) (v := ?v11) rfl (by kernel_rfl) (by kernel_rfl) (by kernel_rfl) (fun _ _ _ h => h) (Or.inl ⟨by rfl, ?hy11⟩) (by assumption) ?rest11
  case hy11 => (intro w hSw; (try dsimp only at hSw); simp only [List.getElem_toArray, List.getElem_cons_zero, List.getElem_cons_succ]; go_simp; (try with_reducible rfl))
  (try simp only [Act.put, List.getElem_toArray, List.getElem_cons_zero, List.getElem_cons_succ, List.setIfInBounds_toArray, List.set_cons_zero, List.set_cons_succ])
  refine wpAnyH_take (i := 1) (v := ?v12) rfl (by kernel_rfl) (by kernel_rfl) (by kernel_rfl) (fun _ _ _ h => h) (Or.inl ⟨by rfl, ?hy12⟩) (by assumption) ?rest12
  case hy12 => (intro w hSw; (try dsimp only at hSw); simp only [List.getElem_toArray, List.getElem_cons_zero, List.getElem_cons_succ]; go_simp; (try with_reducible rfl))
  (try simp only [Act.put, List.getElem_toArray, List.getElem_cons_zero, List.getElem_cons_succ, List.setIfInBounds_toArray, List.set_cons_zero, List.set_cons_succ])
  refine wpAnyH_take (i := 2) (v := ?v13) rfl (by kernel_rfl) (by kernel_rfl) (by kernel_rfl) (fun _ _ _ h => h) (Or.inl ⟨by rfl, ?hy13⟩) (by assumption) ?rest13
  case hy13 => (intro w hSw; (try dsimp only at hSw); simp only [List.getElem_toArray, List.getElem_cons_zero, List.getElem_cons_succ]; go_simp; (try with_reducible rfl))
  (try simp only [Act.put, List.getElem_toArray, List.getElem_cons_zero, List.getElem_cons_succ, List.setIfInBounds_toArray, List.set_cons_zero, List.set_cons_succ])
  refine wpAnyH_take (i := 3) (v := ?v14) rfl (by kernel_rfl) (by kernel_rfl) (by kernel_rfl) (fun _ _ _ h => h) (Or.inl ⟨by rfl, ?hy14⟩) (by assumption) ?rest14
  case hy14 => (intro w hSw; (try dsimp only at hSw); simp only [List.getElem_toArray, List.getElem_cons_zero, List.getElem_cons_succ]; go_simp; (try with_reducible rfl))
  (try simp only [Act.put, List.getElem_toArray, List.getElem_cons_zero, List.getElem_cons_succ, List.setIfInBounds_toArray, List.set_cons_zero, List.set_cons_succ])
  refine wpAnyH_take (i := 4) (v := ?v15) rfl (by kernel_rfl) (by kernel_rfl) (by kernel_rfl) (fun _ _ _ h => h) (Or.inl ⟨by rfl, ?hy15⟩) (by assumption) ?rest15
  case hy15 => (intro w hSw; (try dsimp only at hSw); simp only [List.getElem_toArray, List.getElem_cons_zero, List.getElem_cons_succ]; go_simp; (try with_reducible rfl))
  (try simp only [Act.put, List.getElem_toArray, List.getElem_cons_zero, List.getElem_cons_succ, List.setIfInBounds_toArray, List.set_cons_zero, List.set_cons_succ])
  refine wpAnyH_take (i := 5) (v := ?v16) rfl (by kernel_rfl) (by kernel_rfl) (by kernel_rfl) (fun _ _ _ h => h) (Or.inl ⟨by rfl, ?hy16⟩) (by assumption) ?rest16
  case hy16 => (intro w hSw; (try dsimp only at hSw); simp only [List.getElem_toArray, List.getElem_cons_zero, List.getElem_cons_succ]; go_simp; (try with_reducible rfl))
  (try simp only [Act.put, List.getElem_toArray, List.getElem_cons_zero, List.getElem_cons_succ, List.setIfInBounds_toArray, List.set_cons_zero, List.set_cons_succ])
  refine wpAnyH_ready (rs := [6]) (by kernel_rfl) (by simp) ?_
  refine AllReadyH.cons rfl (fun KK hK => ?_) AllReadyH.nil
  simp only [List.getElem_toArray, List.getElem_cons_zero, List.getElem_cons_succ]
  go_simp
  refine (set_any HRM.out.places (a : Int)).mono ?_
  rintro e w2 ⟨rfl, hmp, hop⟩
  refine hK.out _ _ ?hS17 (fun hHeld2 => ?rest17)
  case hS17 => exact ⟨hop.cell hHeld.1 (by have := HD.out; omega), hop.cell hHeld.2.1 (by have := HD.out; omega), hop.cell hHeld.2.2.1 (by have := HD.out; omega), hop.cell hHeld.2.2.2.1 (by have := HD.out; omega), hop.cell hHeld.2.2.2.2.1 (by have := HD.out; omega), hop.cell hHeld.2.2.2.2.2 (by have := HD.out; omega)⟩
  clear hK KK
  (try clear hHeld)
  have hHeld := hHeld2
  clear hHeld2
  (try simp only [Act.put, List.getElem_toArray, List.getElem_cons_zero, List.getElem_cons_succ, List.setIfInBounds_toArray, List.set_cons_zero, List.set_cons_succ])
  refine wpAnyH_done (by kernel_rfl) ?_ _
  clear hHeld
  have ho2 := HO1.out.trans ((((Out.refl 0 0 wM).drew).any lo hi).trans (HRM.out.wide (i := 8) (by omega) hop))
  have HR2 := hid_mk (HRM.out.setP hop hmp)
  have HO2 := hid_mk ho2
  have HB2 := hid_mk (ho2.heap HBX.out (.inr HD.out.1))
  have hPe : Hid (setS r.P (64 * n) (a : Int) true = upd r.P a true) := by
    show _ = _
    unfold setS
    rw [if_pos (show inB (64 * n) (a : Int) = true from by unfold inB; simp; have := HK.out.2.2; omega)]
    rfl
  clear d0 d1 d2 d3 d4 d5 q0 q1 q2 q3 q4 hmp hop ho2
  obtain ⟨d0, d1, d2, d3, d4, d5⟩ := HR2.out.cells
  obtain ⟨q0, q1, q2, q3, q4⟩ := bo_facts HB2.out
  by_cases hx : 0 < x
  · have hRe : Hid ((fun i => if i = x then some (a : Int) else r.R i) = (if 0 < x then (fun i => if i = x then some (a : Int) else r.R i) else r.R)) := by show _ = _; rw [if_pos hx]
    have hqd := HR2.out.quiet ((Out.refl 0 0 _).drew)
    obtain ⟨w3, hmu, hmR, hoR⟩ := mp_put Tryd.underlying80 Tryd.underlying3 hqd.sers x (.int .i64 (a : Int))
    have HR3 := hid_mk (hqd.setR (R' := fun i => if i = x then some (a : Int) else r.R i) hoR (by rw [← mapR_put]; exact hmR))
    have ho3 := HO2.out.trans ((((Out.refl 0 0 w2).drew).any lo hi).trans (hqd.wide (i := 13) (by omega) hoR))
    have HO3 := hid_mk ho3
    have HB3 := hid_mk (ho3.heap HBX.out (.inr HD.out.1))
    clear hqd hmR ho3
    go_wp2_with fail
    refine wp_region_held_drew (S := fun w' => w'.cell? ⟨s 14, 12, none⟩ = some (.map (some (s 13))) ∧ w'.cell? ⟨w.heap.size, 0, none⟩ = some (.int .i64 (a : Int)) ∧ w'.cell? ⟨w.heap.size, 1, none⟩ = some (.int .i64 k) ∧ w'.cell? ⟨w.heap.size, 2, none⟩ = some (.int .i64 z) ∧ w'.cell? ⟨w.heap.size, 3, none⟩ = some (.int .i64 x) ∧ w'.cell? ⟨w.heap.size, 4, none⟩ = some (.int .i64 t)) (by kernel_rfl) ?hS18 (fun hHeld => ?rest18)
    case hS18 => exact ⟨d4, q0, q1, q2, q3, q4⟩
    refine wpAnyH_take (i := 0) (v := ?v19) rfl (by kernel_rfl) (by kernel_rfl) (by kernel_rfl) (fun _ _ _ h => h) (Or.inl ⟨by rfl, ?hy19⟩) (by assumption) ?rest19
    case hy19 => (intro w hSw; (try dsimp only at hSw); simp only [List.getElem_toArray, List.getElem_cons_zero, List.getElem_cons_succ]; go_simp; (try with_reducible rfl))
    (try simp only [Act.put, List.getElem_toArray, List.getElem_cons_zero, List.getElem_cons_succ, List.setIfInBounds_toArray, List.set_cons_zero, List.set_cons_succ])
    refine wpAnyH_take (i := 1) (v := ?v20) rfl (by kernel_rfl) (by kernel_rfl) (by kernel_rfl) (fun _ _ _ h => h) (Or.inl ⟨by rfl, ?hy20⟩) (by assumption) ?rest20
    case hy20 => (intro w hSw; (try dsimp only at hSw); simp only [List.getElem_toArray, List.getElem_cons_zero, List.getElem_cons_succ]; go_simp; (try with_reducible rfl))
    (try simp only [Act.put, List.getElem_toArray, List.getElem_cons_zero, List.getElem_cons_succ, List.setIfInBounds_toArray, List.set_cons_zero, List.set_cons_succ])
    refine wpAnyH_take (i := 2) (v := ?v21) rfl (by kernel_rfl) (by kernel_rfl) (by kernel_rfl) (fun _ _ _ h => h) (Or.inl ⟨by rfl, ?hy21⟩) (by assumption) ?rest21
    case hy21 => (intro w hSw; (try dsimp only at hSw); simp only [List.getElem_toArray, List.getElem_cons_zero, List.getElem_cons_succ]; go_simp; (try with_reducible rfl))
    (try simp only [Act.put, List.getElem_toArray, List.getElem_cons_zero, List.getElem_cons_succ, List.setIfInBounds_toArray, List.set_cons_zero, List.set_cons_succ])
    refine wpAnyH_take (i := 3) (v := ?v22) rfl (by kernel_rfl) (by kernel_rfl) (by kernel_rfl) (fun _ _ _ h => h) (Or.inl ⟨by rfl, ?hy22⟩) (by assumption) ?rest22
    case hy22 => (intro w hSw; (try dsimp only at hSw); simp only [List.getElem_toArray, List.getElem_cons_zero, List.getElem_cons_succ]; go_simp; (try with_reducible rfl))
    (try simp only [Act.put, List.getElem_toArray, List.getElem_cons_zero, List.getElem_cons_succ, List.setIfInBounds_toArray, List.set_cons_zero, List.set_cons_succ])
    refine wpAnyH_take (i := 4) (v := ?v23) rfl (by kernel_rfl) (by kernel_rfl) (by kernel_rfl) (fun _ _ _ h => h) (Or.inl ⟨by rfl, ?hy23⟩) (by assumption) ?rest23
    case hy23 => (intro w hSw; (try dsimp only at hSw); simp only [List.getElem_toArray, List.getElem_cons_zero, List.getElem_cons_succ]; go_simp; (try with_reducible rfl))
    (try simp only [Act.put, List.getElem_toArray, List.getElem_cons_zero, List.getElem_cons_succ, List.setIfInBounds_toArray, List.set_cons_zero, List.set_cons_succ])
    refine wpAnyH_take (i := 5) (v := ?v24) rfl (by kernel_rfl) (by kernel_rfl) (by kernel_rfl) (fun _ _ _ h => h) (Or.inl ⟨by rfl, ?hy24⟩) (by assumption) ?rest24
    case hy24 => (intro w hSw; (try dsimp only at hSw); simp only [List.getElem_toArray, List.getElem_cons_zero, List.getElem_cons_succ]; go_simp; (try with_reducible rfl))
    (try simp only [Act.put, List.getElem_toArray, List.getElem_cons_zero, List.getElem_cons_succ, List.setIfInBounds_toArray, List.set_cons_zero, List.set_cons_succ])
    refine wpAnyH_take (i := 6) (v := ?v25) rfl (by kernel_rfl) (by kernel_rfl) (by kernel_rfl) (fun _ _ _ h => h) (Or.inl ⟨by rfl, ?hy25⟩) (by assumption) ?rest25
    case hy25 => (intro w hSw; (try dsimp only at hSw); simp only [List.getElem_toArray, List.getElem_cons_zero, List.getElem_cons_succ]; go_simp; (try with_reducible rfl))
    (try simp only [Act.put, List.getElem_toArray, List.getElem_cons_zero, List.getElem_cons_succ, List.setIfInBounds_toArray, List.set_cons_zero, List.set_cons_succ])
    refine wpAnyH_take (i := 7) (v := ?v26) rfl (by kernel_rfl) (by kernel_rfl) (by kernel_rfl) (fun _ _ _ h => h) (Or.inl ⟨by rfl, ?hy26⟩) (by assumption) ?rest26
    case hy26 => (intro w hSw; (try dsimp only at hSw); simp only [List.getElem_toArray, List.getElem_cons_zero, List.getElem_cons_succ]; go_simp; (try with_reducible rfl))
    (try simp only [Act.put, List.getElem_toArray, List.getElem_cons_zero, List.getElem_cons_succ, List.setIfInBounds_toArray, List.set_cons_zero, List.set_cons_succ])
    refine wpAnyH_ready (rs := [8]) (by kernel_rfl) (by simp) ?_
    refine AllReadyH.cons rfl (fun KK hK => ?_) AllReadyH.nil
    simp only [List.getElem_toArray, List.getElem_cons_zero, List.getElem_cons_succ]
    go_simp
    refine hK.out _ _ ?hS27 (fun hHeld2 => ?rest27)
    case hS27 => exact ⟨hoR.cell hHeld.1 (by have := HD.out; omega), hoR.cell hHeld.2.1 (by have := HD.out; omega), hoR.cell hHeld.2.2.1 (by have := HD.out; omega), hoR.cell hHeld.2.2.2.1 (by have := HD.out; omega), hoR.cell hHeld.2.2.2.2.1 (by have := HD.out; omega), hoR.cell hHeld.2.2.2.2.2 (by have := HD.out; omega)⟩
    clear hK KK
    (try clear hHeld)
    have hHeld := hHeld2
    clear hHeld2
    (try simp only [Act.put, List.getElem_toArray, List.getElem_cons_zero, List.getElem_cons_succ, List.setIfInBounds_toArray, List.set_cons_zero, List.set_cons_succ])
    refine wpAnyH_done (by kernel_rfl) ?_ _
    clear hHeld
    clear d0 d1 d2 d3 d4 d5 q0 q1 q2 q3 q4 hmu hoR
    obtain ⟨d0, d1, d2, d3, d4, d5⟩ := HR3.out.cells
    obtain ⟨q0, q1, q2, q3, q4⟩ := bo_facts HB3.out
    have HRR := HR3
    go_wp2_with fail
    refine wp_region_held_drew (S := fun w' => w'.cell? ⟨s 14, 0, none⟩ = some (.slice (some ⟨s 11, 0, none⟩) (64 * n) cap) ∧ w'.cell? ⟨w.heap.size, 0, none⟩ = some (.int .i64 (a : Int)) ∧ w'.cell? ⟨w.heap.size, 1, none⟩ = some (.int .i64 k) ∧ w'.cell? ⟨w.heap.size, 2, none⟩ = some (.int .i64 z) ∧ w'.cell? ⟨w.heap.size, 3, none⟩ = some (.int .i64 x) ∧ w'.cell? ⟨w.heap.size, 4, none⟩ = some (.int .i64 t)) (by kernel_rfl) ?hS28 (fun hHeld => ?rest28)
    case hS28 => exact ⟨d0, q0, q1, q2, q3, q4⟩
    refine wpAnyH_take (i := 0) (v := ?v29) rfl (by kernel_rfl) (by kernel_rfl) (by kernel_rfl) (fun _ _ _ h => h) (Or.inl ⟨by rfl, ?hy29⟩) (by assumption) ?rest29
    case hy29 => (intro w hSw; (try dsimp only at hSw); simp only [List.getElem_toArray, List.getElem_cons_zero, List.getElem_cons_succ]; go_simp; (try with_reducible rfl))
    (try simp only [Act.put, List.getElem_toArray, List.getElem_cons_zero, List.getElem_cons_succ, List.setIfInBounds_toArray, List.set_cons_zero, List.set_cons_succ])
    refine wpAnyH_take (i := 1) (v := ?v30) rfl (by kernel_rfl) (by kernel_rfl) (by kernel_rfl) (fun _ _ _ h => h) (Or.inl ⟨by rfl, ?hy30⟩) (by assumption) ?rest30
    case hy30 => (intro w hSw; (try dsimp only at hSw); simp only [List.getElem_toArray, List.getElem_cons_zero, List.getElem_cons_succ]; go_simp; (try with_reducible rfl))
    (try simp only [Act.put, List.getElem_toArray, List.getElem_cons_zero, List.getElem_cons_succ, List.setIfInBounds_toArray, List.set_cons_zero, List.set_cons_succ])
    refine wpAnyH_take (i := 2) (v := ?v31) rfl (by kernel_rfl) (by kernel_rfl) (by kernel_rfl) (fun _ _ _ h => h) (Or.inl ⟨by rfl, ?hy31⟩) (by assumption) ?rest31
    case hy31 => (intro w hSw; (try dsimp only at hSw); simp only [List.getElem_toArray, List.getElem_cons_zero, List.getElem_cons_succ]; go_simp; (try with_reducible rfl))
    (try simp only [Act.put, List.getElem_toArray, List.getElem_cons_zero, List.getElem_cons_succ, List.setIfInBounds_toArray, List.set_cons_zero, List.set_cons_succ])
    refine wpAnyH_take (i := 3) (v := ?v32) rfl (by kernel_rfl) (by kernel_rfl) (by kernel_rfl) (fun _ _ _ h => h) (Or.inl ⟨by rfl, ?hy32⟩) (by assumption) ?rest32
    case hy32 => (intro w hSw; (try dsimp only at hSw); simp only [List.getElem_toArray, List.getElem_cons_zero, List.getElem_cons_succ]; go_simp; (try with_reducible rfl))
    (try simp only [Act.put, List.getElem_toArray, List.getElem_cons_zero, List.getElem_cons_succ, List.setIfInBounds_toArray, List.set_cons_zero, List.set_cons_succ])
    refine wpAnyH_take (i := 4) (v := ?v33) rfl (by kernel_rfl) (by kernel_rfl) (by kernel_rfl) (fun _ _ _ h => h) (Or.inl ⟨by rfl, ?hy33⟩) (by assumption) ?rest33
    case hy33 => (intro w hSw; (try dsimp only at hSw); simp only [List.getElem_toArray, List.getElem_cons_zero, List.getElem_cons_succ]; go_simp; (try with_reducible rfl))
    (try simp only [Act.put, List.getElem_toArray, List.getElem_cons_zero, List.getElem_cons_succ, List.setIfInBounds_toArray, List.set_cons_zero, List.set_cons_succ])
    refine wpAnyH_take (i := 5) (v := ?v34) rfl (by kernel_rfl) (by kernel_rfl) (by kernel_rfl) (fun _ _ _ h => h) (Or.inl ⟨by rfl, ?hy34⟩) (by assumption) ?rest34
    case hy34 => (intro w hSw; (try dsimp only at hSw); simp only [List.getElem_toArray, List.getElem_cons_zero, List.getElem_cons_succ]; go_simp; (try with_reducible rfl))
    (try simp only [Act.put, List.getElem_toArray, List.getElem_cons_zero, List.getElem_cons_succ, List.setIfInBounds_toArray, List.set_cons_zero, List.set_cons_succ])
    refine wpAnyH_take (i := 6) (v := ?v35) rfl (by kernel_rfl) (by kernel_rfl) (by kernel_rfl) (fun _ _ _ h => h) (Or.inl ⟨by rfl, ?hy35⟩) (by assumption) ?rest35
    case hy35 => (intro w hSw; (try dsimp only at hSw); simp only [List.getElem_toArray, List.getElem_cons_zero, List.getElem_cons_succ]; go_simp; (try with_reducible rfl))
    (try simp only [Act.put, List.getElem_toArray, List.getElem_cons_zero, List.getElem_cons_succ, List.setIfInBounds_toArray, List.set_cons_zero, List.set_cons_succ])
    refine wpAnyH_take (i := 7) (v := ?v36) rfl (by kernel_rfl) (by kernel_rfl) (by kernel_rfl) (fun _ _ _ h => h) (Or.inl ⟨by rfl, ?hy36⟩) (by assumption) ?rest36
    case hy36 => (intro w hSw; (try dsimp only at hSw); simp only [List.getElem_toArray, List.getElem_cons_zero, List.getElem_cons_succ]; go_simp; (try with_reducible rfl))
    (try simp only [Act.put, List.getElem_toArray, List.getElem_cons_zero, List.getElem_cons_succ, List.setIfInBounds_toArray, List.set_cons_zero, List.set_cons_succ])
    refine wpAnyH_take (i := 8) (v := ?v37) rfl (by kernel_rfl) (by kernel_rfl) (by kernel_rfl) (fun _ _ _ h => h) (Or.inl ⟨by rfl, ?hy37⟩) (by assumption) ?rest37
    case hy37 => (intro w hSw; (try dsimp only at hSw); simp only [List.getElem_toArray, List.getElem_cons_zero, List.getElem_cons_succ]; go_simp; (try with_reducible rfl))
    (try simp only [Act.put, List.getElem_toArray, List.getElem_cons_zero, List.getElem_cons_succ, List.setIfInBounds_toArray, List.set_cons_zero, List.set_cons_succ])
    refine wpAnyH_take (i := 9) (v := ?v38) rfl (by kernel_rfl) (by kernel_rfl) (by kernel_rfl) (fun _ _ _ h => h) (Or.inl ⟨by rfl, ?hy38⟩) (by assumption) ?rest38
    case hy38 => (intro w hSw; (try dsimp only at hSw); simp only [List.getElem_toArray, List.getElem_cons_zero, List.getElem_cons_succ]; go_simp; (try with_reducible rfl))
    (try simp only [Act.put, List.getElem_toArray, List.getElem_cons_zero, List.getElem_cons_succ, List.setIfInBounds_toArray, List.set_cons_zero, List.set_cons_succ])
    refine wpAnyH_ready (rs := [10]) (by kernel_rfl) (by simp) ?_
    refine AllReadyH.cons rfl (fun KK hK => ?_) AllReadyH.nil
    simp only [List.getElem_toArray, List.getElem_cons_zero, List.getElem_cons_succ]
    go_simp
    refine (HRoom.out _).mono ?_
    rintro e w5 ⟨rfl, hoo⟩
    obtain ⟨w6, hcl, hr6, ho6⟩ := (HRR.out.quiet (((Out.refl 0 0 _).drew).trans hoo)).clear (a := a) (k := roomN z) (o := o) (cp := cp) HK.out.1 HK.out.2.1
    refine hK.out _ _ ?hS39 (fun hHeld2 => ?rest39)
    case hS39 => exact ⟨hoo.cell hHeld.1 (.inr (Nat.zero_le _)), hoo.cell hHeld.2.1 (.inr (Nat.zero_le _)), hoo.cell hHeld.2.2.1 (.inr (Nat.zero_le _)), hoo.cell hHeld.2.2.2.1 (.inr (Nat.zero_le _)), hoo.cell hHeld.2.2.2.2.1 (.inr (Nat.zero_le _)), hoo.cell hHeld.2.2.2.2.2 (.inr (Nat.zero_le _))⟩
    clear hK KK
    (try clear hHeld)
    have hHeld := hHeld2
    clear hHeld2
    (try simp only [Act.put, List.getElem_toArray, List.getElem_cons_zero, List.getElem_cons_succ, List.setIfInBounds_toArray, List.set_cons_zero, List.set_cons_succ])
    refine wpAnyH_take (i := 11) (v := ?v40) rfl (by kernel_rfl) (by kernel_rfl) (by kernel_rfl) (fun _ _ _ h => h) (Or.inl ⟨by rfl, ?hy40⟩) (by assumption) ?rest40
    case hy40 => (intro w hSw; (try dsimp only at hSw); simp only [List.getElem_toArray, List.getElem_cons_zero, List.getElem_cons_succ]; go_simp; (try with_reducible rfl))
    (try simp only [Act.put, List.getElem_toArray, List.getElem_cons_zero, List.getElem_cons_succ, List.setIfInBounds_toArray, List.set_cons_zero, List.set_cons_succ])
    refine wpAnyH_take (i := 12) (v := ?v41) rfl (by kernel_rfl) (by kernel_rfl) (by kernel_rfl) (fun _ _ _ h => h) (Or.inl ⟨by rfl, ?hy41⟩) (by assumption) ?rest41
    case hy41 => (intro w hSw; (try dsimp only at hSw); simp only [List.getElem_toArray, List.getElem_cons_zero, List.getElem_cons_succ]; go_simp; (try with_reducible rfl))
    (try simp only [Act.put, List.getElem_toArray, List.getElem_cons_zero, List.getElem_cons_succ, List.setIfInBounds_toArray, List.set_cons_zero, List.set_cons_succ])
    refine wpAnyH_ready (rs := [13]) (by kernel_rfl) (by simp) ?_
    refine AllReadyH.cons rfl (fun KK hK => ?_) AllReadyH.nil
    simp only [List.getElem_toArray, List.getElem_cons_zero, List.getElem_cons_succ]
    go_simp
    refine hK.out _ _ ?hS42 (fun hHeld2 => ?rest42)
    case hS42 => exact ⟨ho6.cell hHeld.1 (by have := HD.out; omega), ho6.cell hHeld.2.1 (by have := HD.out; omega), ho6.cell hHeld.2.2.1 (by have := HD.out; omega), ho6.cell hHeld.2.2.2.1 (by have := HD.out; omega), ho6.cell hHeld.2.2.2.2.1 (by have := HD.out; omega), ho6.cell hHeld.2.2.2.2.2 (by have := HD.out; omega)⟩
    clear hK KK
    (try clear hHeld)
    have hHeld := hHeld2
    clear hHeld2
    (try simp only [Act.put, List.getElem_toArray, List.getElem_cons_zero, List.getElem_cons_succ, List.setIfInBounds_toArray, List.set_cons_zero, List.set_cons_succ])
    refine wpAnyH_done (by kernel_rfl) ?_ _
    clear hHeld
    have ho6' := HO3.out.trans ((((Out.refl 0 0 w3).drew).trans hoo).any lo hi |>.trans ((HRR.out.quiet (((Out.refl 0 0 _).drew).trans hoo)).wide (i := 11) (by omega) ho6))
    have HR6 := hid_mk hr6
    have HO6 := hid_mk ho6'
    have HB6 := hid_mk (ho6'.heap HBX.out (.inr HD.out.1))
    clear hoo hcl hr6 ho6 ho6' d0 d1 d2 d3 d4 d5 q0 q1 q2 q3 q4
    obtain ⟨d0, d1, d2, d3, d4, d5⟩ := HR6.out.cells
    obtain ⟨q0, q1, q2, q3, q4⟩ := bo_facts HB6.out
    have e0 := HR6.out.words.cell HK.out.2.2
    have e1 := HR6.out.words.frozen a
    have ho9 : ∀ v, Out (s 11) (s 11 + 1) w6.drew (w6.drew.setCell ⟨s 11, a, none⟩ v) := fun v => (Out.refl _ _ _).setCell (.inl ⟨Nat.le_refl _, Nat.lt_succ_self _⟩) _
    go_wp2_with fail
    refine wp_region_held_drew (S := fun w' => w'.cell? ⟨s 14, 0, none⟩ = some (.slice (some ⟨s 11, 0, none⟩) (64 * n) cap) ∧ w'.cell? ⟨w.heap.size, 0, none⟩ = some (.int .i64 (a : Int)) ∧ w'.cell? ⟨w.heap.size, 1, none⟩ = some (.int .i64 k) ∧ w'.cell? ⟨w.heap.size, 2, none⟩ = some (.int .i64 z) ∧ w'.cell? ⟨w.heap.size, 3, none⟩ = some (.int .i64 x) ∧ w'.cell? ⟨w.heap.size, 4, none⟩ = some (.int .i64 t)) (by kernel_rfl) ?hS43 (fun hHeld => ?rest43)
    case hS43 => exact ⟨d0, q0, q1, q2, q3, q4⟩
    refine wpAnyH_take (i := 0) (v := ?v44) rfl (by kernel_rfl) (by kernel_rfl) (by kernel_rfl) (fun _ _ _ h => h) (Or.inl ⟨by rfl, ?hy44⟩) (by assumption) ?rest44
    case hy44 => (intro w hSw; (try dsimp only at hSw); simp only [List.getElem_toArray, List.getElem_cons_zero, List.getElem_cons_succ]; go_simp; (try with_reducible rfl))
    (try simp only [Act.put, List.getElem_toArray, List.getElem_cons_zero, List.getElem_cons_succ, List.setIfInBounds_toArray, List.set_cons_zero, List.set_cons_succ])
    refine wpAnyH_take (i := 1) (v := ?v45) rfl (by kernel_rfl) (by kernel_rfl) (by kernel_rfl) (fun _ _ _ h => h) (Or.inl ⟨by rfl, ?hy45⟩) (by assumption) ?rest45
    case hy45 => (intro w hSw; (try dsimp only at hSw); simp only [List.getElem_toArray, List.getElem_cons_zero, List.getElem_cons_succ]; go_simp; (try with_reducible rfl))
    (try simp only [Act.put, List.getElem_toArray, List.getElem_cons_zero, List.getElem_cons_succ, List.setIfInBounds_toArray, List.set_cons_zero, List.set_cons_succ])
    refine wpAnyH_take (i := 2) (v := ?v46) rfl (by kernel_rfl) (by kernel_rfl) (by kernel_rfl) (fun _ _ _ h => h) (Or.inl ⟨by rfl, ?hy46⟩) (by assumption) ?rest46
    case hy46 => (intro w hSw; (try dsimp only at hSw); simp only [List.getElem_toArray, List.getElem_cons_zero, List.getElem_cons_succ]; go_simp; (try with_reducible rfl))
    (try simp only [Act.put, List.getElem_toArray, List.getElem_cons_zero, List.getElem_cons_succ, List.setIfInBounds_toArray, List.set_cons_zero, List.set_cons_succ])
    refine wpAnyH_take (i := 3) (v := ?v47) rfl (by kernel_rfl) (by kernel_rfl) (by kernel_rfl) (fun _ _ _ h => h) (Or.inl ⟨by rfl, ?hy47⟩) (by assumption) ?rest47
    case hy47 => (intro w hSw; (try dsimp only at hSw); simp only [List.getElem_toArray, List.getElem_cons_zero, List.getElem_cons_succ]; go_simp; (try with_reducible rfl))
    (try simp only [Act.put, List.getElem_toArray, List.getElem_cons_zero, List.getElem_cons_succ, List.setIfInBounds_toArray, List.set_cons_zero, List.set_cons_succ])
    refine wpAnyH_take (i := 4) (v := ?v48) rfl (by kernel_rfl) (by kernel_rfl) (by kernel_rfl) (fun _ _ _ h => h) (Or.inl ⟨by rfl, ?hy48⟩) (by assumption) ?rest48
    case hy48 => (intro w hSw; (try dsimp only at hSw); simp only [List.getElem_toArray, List.getElem_cons_zero, List.getElem_cons_succ]; go_simp; (try with_reducible rfl))
    (try simp only [Act.put, List.getElem_toArray, List.getElem_cons_zero, List.getElem_cons_succ, List.setIfInBounds_toArray, List.set_cons_zero, List.set_cons_succ])
    refine wpAnyH_take (i := 5) (v := ?v49) rfl (by kernel_rfl) (by kernel_rfl) (by kernel_rfl) (fun _ _ _ h => h) (Or.inl ⟨by rfl, ?hy49⟩) (by assumption) ?rest49
    case hy49 => (intro w hSw; (try dsimp only at hSw); simp only [List.getElem_toArray, List.getElem_cons_zero, List.getElem_cons_succ]; go_simp; (try with_reducible rfl))
    (try simp only [Act.put, List.getElem_toArray, List.getElem_cons_zero, List.getElem_cons_succ, List.setIfInBounds_toArray, List.set_cons_zero, List.set_cons_succ])
    refine wpAnyH_take (i := 6) (v := ?v50) rfl (by kernel_rfl) (by kernel_rfl) (by kernel_rfl) (fun _ _ _ h => h) (Or.inl ⟨by rfl, ?hy50⟩) (by assumption) ?rest50
    case hy50 => (intro w hSw; (try dsimp only at hSw); simp only [List.getElem_toArray, List.getElem_cons_zero, List.getElem_cons_succ]; go_simp; (try with_reducible rfl))
    (try simp only [Act.put, List.getElem_toArray, List.getElem_cons_zero, List.getElem_cons_succ, List.setIfInBounds_toArray, List.set_cons_zero, List.set_cons_succ])
    refine wpAnyH_take (i := 7) (v := ?v51) rfl (by kernel_rfl) (by kernel_rfl) (by kernel_rfl) (fun _ _ _ h => h) (Or.inl ⟨by rfl, ?hy51⟩) (by assumption) ?rest51
    case hy51 => (intro w hSw; (try dsimp only at hSw); simp only [List.getElem_toArray, List.getElem_cons_zero, List.getElem_cons_succ]; go_simp; (try with_reducible rfl))
    (try simp only [Act.put, List.getElem_toArray, List.getElem_cons_zero, List.getElem_cons_succ, List.setIfInBounds_toArray, List.set_cons_zero, List.set_cons_succ])
    refine wpAnyH_take (i := 8) (v := ?v52) rfl (by kernel_rfl) (by kernel_rfl) (by kernel_rfl) (fun _ _ _ h => h) (Or.inl ⟨by rfl, ?hy52⟩) (by assumption) ?rest52
    case hy52 => (intro w hSw; (try dsimp only at hSw); simp only [List.getElem_toArray, List.getElem_cons_zero, List.getElem_cons_succ]; go_simp; (try with_reducible rfl))
    (try simp only [Act.put, List.getElem_toArray, List.getElem_cons_zero, List.getElem_cons_succ, List.setIfInBounds_toArray, List.set_cons_zero, List.set_cons_succ])
    refine wpAnyH_take (i := 9) (v := ?v53) rfl (by kernel_rfl) (by kernel_rfl) (by kernel_rfl) (fun _ _ _ h => h) (Or.inl ⟨by rfl, ?hy53⟩) (by assumption) ?rest53
    case hy53 => (intro w hSw; (try dsimp only at hSw); simp only [List.getElem_toArray, List.getElem_cons_zero, List.getElem_cons_succ]; go_simp; (try with_reducible rfl))
    (try simp only [Act.put, List.getElem_toArray, List.getElem_cons_zero, List.getElem_cons_succ, List.setIfInBounds_toArray, List.set_cons_zero, List.set_cons_succ])
    refine wpAnyH_take (i := 10) (v := ?v54) rfl (by kernel_rfl) (by kernel_rfl) (by kernel_rfl) (fun _ _ _ h => h) (Or.inl ⟨by rfl, ?hy54⟩) (by assumption) ?rest54
    case hy54 => (intro w hSw; (try dsimp only at hSw); simp only [List.getElem_toArray, List.getElem_cons_zero, List.getElem_cons_succ]; go_simp; (try with_reducible rfl))
    (try simp only [Act.put, List.getElem_toArray, List.getElem_cons_zero, List.getElem_cons_succ, List.setIfInBounds_toArray, List.set_cons_zero, List.set_cons_succ])
    refine wpAnyH_take (i := 11) (v := ?v55) rfl (by kernel_rfl) (by kernel_rfl) (by kernel_rfl) (fun _ _ _ h => h) (Or.inl ⟨by rfl, ?hy55⟩) (by assumption) ?rest55
    case hy55 => (intro w hSw; (try dsimp only at hSw); simp only [List.getElem_toArray, List.getElem_cons_zero, List.getElem_cons_succ]; go_simp; (try with_reducible rfl))
    (try simp only [Act.put, List.getElem_toArray, List.getElem_cons_zero, List.getElem_cons_succ, List.setIfInBounds_toArray, List.set_cons_zero, List.set_cons_succ])
    refine wpAnyH_ready (rs := [12]) (by kernel_rfl) (by simp) ?_
    refine AllReadyH.cons rfl (fun KK hK => ?_) AllReadyH.nil
    simp only [List.getElem_toArray, List.getElem_cons_zero, List.getElem_cons_succ]
    go_simp
    refine (HM.out _).mono ?_
    rintro e w7 ⟨rfl, rfl⟩
    refine hK.out _ _ ?hS56 (fun hHeld2 => ?rest56)
    case hS56 => exact hHeld
    clear hK KK
    (try clear hHeld)
    have hHeld := hHeld2
    clear hHeld2
    (try simp only [Act.put, List.getElem_toArray, List.getElem_cons_zero, List.getElem_cons_succ, List.setIfInBounds_toArray, List.set_cons_zero, List.set_cons_succ])
    refine wpAnyH_take (i := 13) (v := ?v57) rfl (by kernel_rfl) (by kernel_rfl) (by kernel_rfl) (fun _ _ _ h => h) (Or.inl ⟨by rfl, ?hy57⟩) (by assumption) ?rest57
    case hy57 => (intro w hSw; (try dsimp only at hSw); simp only [List.getElem_toArray, List.getElem_cons_zero, List.getElem_cons_succ]; go_simp; (try with_reducible rfl))
    (try simp only [Act.put, List.getElem_toArray, List.getElem_cons_zero, List.getElem_cons_succ, List.setIfInBounds_toArray, List.set_cons_zero, List.set_cons_succ])
    refine wpAnyH_ready (rs := [14]) (by kernel_rfl) (by simp) ?_
    refine AllReadyH.cons rfl (fun KK hK => ?_) AllReadyH.nil
    simp only [List.getElem_toArray, List.getElem_cons_zero, List.getElem_cons_succ]
    go_simp
    refine hK.out _ _ ?hS58 (fun hHeld2 => ?rest58)
    case hS58 => exact ⟨(ho9 _).cell hHeld.1 (by have := HD.out; omega), (ho9 _).cell hHeld.2.1 (by have := HD.out; omega), (ho9 _).cell hHeld.2.2.1 (by have := HD.out; omega), (ho9 _).cell hHeld.2.2.2.1 (by have := HD.out; omega), (ho9 _).cell hHeld.2.2.2.2.1 (by have := HD.out; omega), (ho9 _).cell hHeld.2.2.2.2.2 (by have := HD.out; omega)⟩
    clear hK KK
    (try clear hHeld)
    have hHeld := hHeld2
    clear hHeld2
    (try simp only [Act.put, List.getElem_toArray, List.getElem_cons_zero, List.getElem_cons_succ, List.setIfInBounds_toArray, List.set_cons_zero, List.set_cons_succ])
    refine wpAnyH_done (by kernel_rfl) ?_ _
    clear hHeld
    go_wp2
    have hp := (HR6.out.quiet ((Out.refl 0 0 _).drew)).poke a (makeV (a : Int) k z)
    refine bodyPost_end (results_none Tryd.results40 _ _ _) rfl ⟨⟨_, rfl⟩, hp.1.congr ?_, ((H0.out.any lo hi).trans HO6.out).trans ((((Out.refl 0 0 _).drew).any lo hi).trans ((HR6.out.quiet ((Out.refl 0 0 _).drew)).wide (i := 11) (by omega) hp.2))⟩
    refine Raw.eq rfl rfl rfl ?_ rfl ?_ rfl
    · exact hPe.out
    · exact hRe.out
  · have hRe : Hid (r.R = (if 0 < x then (fun i => if i = x then some (a : Int) else r.R i) else r.R)) := by show _ = _; rw [if_neg hx]
    have hx' : x ≤ 0 := by omega
    obtain ⟨w3, rfl⟩ : ∃ w3, w3 = w2 := ⟨_, rfl⟩
    have HO3 := HO2
    have HRR := HR2
    clear hx
    go_wp2_with fail
    refine wp_region_held_drew (S := fun w' => w'.cell? ⟨s 14, 0, none⟩ = some (.slice (some ⟨s 11, 0, none⟩) (64 * n) cap) ∧ w'.cell? ⟨w.heap.size, 0, none⟩ = some (.int .i64 (a : Int)) ∧ w'.cell? ⟨w.heap.size, 1, none⟩ = some (.int .i64 k) ∧ w'.cell? ⟨w.heap.size, 2, none⟩ = some (.int .i64 z) ∧ w'.cell? ⟨w.heap.size, 3, none⟩ = some (.int .i64 x) ∧ w'.cell? ⟨w.heap.size, 4, none⟩ = some (.int .i64 t)) (by kernel_rfl) ?hS59 (fun hHeld => ?rest59)
    case hS59 => exact ⟨d0, q0, q1, q2, q3, q4⟩
    refine wpAnyH_take (i := 0) (v := ?v60) rfl (by kernel_rfl) (by kernel_rfl) (by kernel_rfl) (fun _ _ _ h => h) (Or.inl ⟨by rfl, ?hy60⟩) (by assumption) ?rest60
    case hy60 => (intro w hSw; (try dsimp only at hSw); simp only [List.getElem_toArray, List.getElem_cons_zero, List.getElem_cons_succ]; go_simp; (try with_reducible rfl))
    (try simp only [Act.put, List.getElem_toArray, List.getElem_cons_zero, List.getElem_cons_succ, List.setIfInBounds_toArray, List.set_cons_zero, List.set_cons_succ])
    refine wpAnyH_take (i := 1) (v := ?v61) rfl (by kernel_rfl) (by kernel_rfl) (by kernel_rfl) (fun _ _ _ h => h) (Or.inl ⟨by rfl, ?hy61⟩) (by assumption) ?rest61
    case hy61 => (intro w hSw; (try dsimp only at hSw); simp only [List.getElem_toArray, List.getElem_cons_zero, List.getElem_cons_succ]; go_simp; (try with_reducible rfl))
    (try simp only [Act.put, List.getElem_toArray, List.getElem_cons_zero, List.getElem_cons_succ, List.setIfInBounds_toArray, List.set_cons_zero, List.set_cons_succ])
    refine wpAnyH_take (i := 2) (v := ?v62) rfl (by kernel_rfl) (by kernel_rfl) (by kernel_rfl) (fun _ _ _ h => h) (Or.inl ⟨by rfl, ?hy62⟩) (by assumption) ?rest62
    case hy62 => (intro w hSw; (try dsimp only at hSw); simp only [List.getElem_toArray, List.getElem_cons_zero, List.getElem_cons_succ]; go_simp; (try with_reducible rfl))
    (try simp only [Act.put, List.getElem_toArray, List.getElem_cons_zero, List.getElem_cons_succ, List.setIfInBounds_toArray, List.set_cons_zero, List.set_cons_succ])
    refine wpAnyH_take (i := 3) (v := ?v63) rfl (by kernel_rfl) (by kernel_rfl) (by kernel_rfl) (fun _ _ _ h => h) (Or.inl ⟨by rfl, ?hy63⟩) (by assumption) ?rest63
    case hy63 => (intro w hSw; (try dsimp only at hSw); simp only [List.getElem_toArray, List.getElem_cons_zero, List.getElem_cons_succ]; go_simp; (try with_reducible rfl))
    (try simp only [Act.put, List.getElem_toArray, List.getElem_cons_zero, List.getElem_cons_succ, List.setIfInBounds_toArray, List.set_cons_zero, List.set_cons_succ])
    refine wpAnyH_take (i := 4) (v := ?v64) rfl (by kernel_rfl) (by kernel_rfl) (by kernel_rfl) (fun _ _ _ h => h) (Or.inl ⟨by rfl, ?hy64⟩) (by assumption) ?rest64
    case hy64 => (intro w hSw; (try dsimp only at hSw); simp only [List.getElem_toArray, List.getElem_cons_zero, List.getElem_cons_succ]; go_simp; (try with_reducible rfl))
    (try simp only [Act.put, List.getElem_toArray, List.getElem_cons_zero, List.getElem_cons_succ, List.setIfInBounds_toArray, List.set_cons_zero, List.set_cons_succ])
    refine wpAnyH_take (i := 5) (v := ?v65) rfl (by kernel_rfl) (by kernel_rfl) (by kernel_rfl) (fun _ _ _ h => h) (Or.inl ⟨by rfl, ?hy65⟩) (by assumption) ?rest65
    case hy65 => (intro w hSw; (try dsimp only at hSw); simp only [List.getElem_toArray, List.getElem_cons_zero, List.getElem_cons_succ]; go_simp; (try with_reducible rfl))
    (try simp only [Act.put, List.getElem_toArray, List.getElem_cons_zero, List.getElem_cons_succ, List.setIfInBounds_toArray, List.set_cons_zero, List.set_cons_succ])
    refine wpAnyH_take (i := 6) (v := ?v66) rfl (by kernel_rfl) (by kernel_rfl) (by kernel_rfl) (fun _ _ _ h => h) (Or.inl ⟨by rfl, ?hy66⟩) (by assumption) ?rest66
    case hy66 => (intro w hSw; (try dsimp only at hSw); simp only [List.getElem_toArray, List.getElem_cons_zero, List.getElem_cons_succ]; go_simp; (try with_reducible rfl))
    (try simp only [Act.put, List.getElem_toArray, List.getElem_cons_zero, List.getElem_cons_succ, List.setIfInBounds_toArray, List.set_cons_zero, List.set_cons_succ])
    refine wpAnyH_take (i := 7) (v := ?v67) rfl (by kernel_rfl) (by kernel_rfl) (by kernel_rfl) (fun _ _ _ h => h) (Or.inl ⟨by rfl, ?hy67⟩) (by assumption) ?rest67
    case hy67 => (intro w hSw; (try dsimp only at hSw); simp only [List.getElem_toArray, List.getElem_cons_zero, List.getElem_cons_succ]; go_simp; (try with_reducible rfl))
    (try simp only [Act.put, List.getElem_toArray, List.getElem_cons_zero, List.getElem_cons_succ, List.setIfInBounds_toArray, List.set_cons_zero, List.set_cons_succ])
    refine wpAnyH_take (i := 8) (v := ?v68) rfl (by kernel_rfl) (by kernel_rfl) (by kernel_rfl) (fun _ _ _ h => h) (Or.inl ⟨by rfl, ?hy68⟩) (by assumption) ?rest68
    case hy68 => (intro w hSw; (try dsimp only at hSw); simp only [List.getElem_toArray, List.getElem_cons_zero, List.getElem_cons_succ]; go_simp; (try with_reducible rfl))
    (try simp only [Act.put, List.getElem_toArray, List.getElem_cons_zero, List.getElem_cons_succ, List.setIfInBounds_toArray, List.set_cons_zero, List.set_cons_succ])
    refine wpAnyH_take (i := 9) (v := ?v69) rfl (by kernel_rfl) (by kernel_rfl) (by kernel_rfl) (fun _ _ _ h => h) (Or.inl ⟨by rfl, ?hy69⟩) (by assumption) ?rest69
    case hy69 => (intro w hSw; (try dsimp only at hSw); simp only [List.getElem_toArray, List.getElem_cons_zero, List.getElem_cons_succ]; go_simp; (try with_reducible rfl))
    (try simp only [Act.put, List.getElem_toArray, List.getElem_cons_zero, List.getElem_cons_succ, List.setIfInBounds_toArray, List.set_cons_zero, List.set_cons_succ])
    refine wpAnyH_ready (rs := [10]) (by kernel_rfl) (by simp) ?_
    refine AllReadyH.cons rfl (fun KK hK => ?_) AllReadyH.nil
    simp only [List.getElem_toArray, List.getElem_cons_zero, List.getElem_cons_succ]
    go_simp
    refine (HRoom.out _).mono ?_
    rintro e w5 ⟨rfl, hoo⟩
    obtain ⟨w6, hcl, hr6, ho6⟩ := (HRR.out.quiet (((Out.refl 0 0 _).drew).trans hoo)).clear (a := a) (k := roomN z) (o := o) (cp := cp) HK.out.1 HK.out.2.1
    refine hK.out _ _ ?hS70 (fun hHeld2 => ?rest70)
    case hS70 => exact ⟨hoo.cell hHeld.1 (.inr (Nat.zero_le _)), hoo.cell hHeld.2.1 (.inr (Nat.zero_le _)), hoo.cell hHeld.2.2.1 (.inr (Nat.zero_le _)), hoo.cell hHeld.2.2.2.1 (.inr (Nat.zero_le _)), hoo.cell hHeld.2.2.2.2.1 (.inr (Nat.zero_le _)), hoo.cell hHeld.2.2.2.2.2 (.inr (Nat.zero_le _))⟩
    clear hK KK
    (try clear hHeld)
    have hHeld := hHeld2
    clear hHeld2
    (try simp only [Act.put, List.getElem_toArray, List.getElem_cons_zero, List.getElem_cons_succ, List.setIfInBounds_toArray, List.set_cons_zero, List.set_cons_succ])
    refine wpAnyH_take (i := 11) (v := ?v71) rfl (by kernel_rfl) (by kernel_rfl) (by kernel_rfl) (fun _ _ _ h => h) (Or.inl ⟨by rfl, ?hy71⟩) (by assumption) ?rest71
    case hy71 => (intro w hSw; (try dsimp only at hSw); simp only [List.getElem_toArray, List.getElem_cons_zero, List.getElem_cons_succ]; go_simp; (try with_reducible rfl))
    (try simp only [Act.put, List.getElem_toArray, List.getElem_cons_zero, List.getElem_cons_succ, List.setIfInBounds_toArray, List.set_cons_zero, List.set_cons_succ])
    refine wpAnyH_take (i := 12) (v := ?v72) rfl (by kernel_rfl) (by kernel_rfl) (by kernel_rfl) (fun _ _ _ h => h) (Or.inl ⟨by rfl, ?hy72⟩) (by assumption) ?rest72
    case hy72 => (intro w hSw; (try dsimp only at hSw); simp only [List.getElem_toArray, List.getElem_cons_zero, List.getElem_cons_succ]; go_simp; (try with_reducible rfl))
    (try simp only [Act.put, List.getElem_toArray, List.getElem_cons_zero, List.getElem_cons_succ, List.setIfInBounds_toArray, List.set_cons_zero, List.set_cons_succ])
    refine wpAnyH_ready (rs := [13]) (by kernel_rfl) (by simp) ?_
    refine AllReadyH.cons rfl (fun KK hK => ?_) AllReadyH.nil
    simp only [List.getElem_toArray, List.getElem_cons_zero, List.getElem_cons_succ]
    go_simp
    refine hK.out _ _ ?hS73 (fun hHeld2 => ?rest73)
    case hS73 => exact ⟨ho6.cell hHeld.1 (by have := HD.out; omega), ho6.cell hHeld.2.1 (by have := HD.out; omega), ho6.cell hHeld.2.2.1 (by have := HD.out; omega), ho6.cell hHeld.2.2.2.1 (by have := HD.out; omega), ho6.cell hHeld.2.2.2.2.1 (by have := HD.out; omega), ho6.cell hHeld.2.2.2.2.2 (by have := HD.out; omega)⟩
    clear hK KK
    (try clear hHeld)
    have hHeld := hHeld2
    clear hHeld2
    (try simp only [Act.put, List.getElem_toArray, List.getElem_cons_zero, List.getElem_cons_succ, List.setIfInBounds_toArray, List.set_cons_zero, List.set_cons_succ])
    refine wpAnyH_done (by kernel_rfl) ?_ _
    clear hHeld
    have ho6' := HO3.out.trans ((((Out.refl 0 0 w3).drew).trans hoo).any lo hi |>.trans ((HRR.out.quiet (((Out.refl 0 0 _).drew).trans hoo)).wide (i := 11) (by omega) ho6))
    have HR6 := hid_mk hr6
    have HO6 := hid_mk ho6'
    have HB6 := hid_mk (ho6'.heap HBX.out (.inr HD.out.1))
    clear hoo hcl hr6 ho6 ho6' d0 d1 d2 d3 d4 d5 q0 q1 q2 q3 q4
    obtain ⟨d0, d1, d2, d3, d4, d5⟩ := HR6.out.cells
    obtain ⟨q0, q1, q2, q3, q4⟩ := bo_facts HB6.out
    have e0 := HR6.out.words.cell HK.out.2.2
    have e1 := HR6.out.words.frozen a
    have ho9 : ∀ v, Out (s 11) (s 11 + 1) w6.drew (w6.drew.setCell ⟨s 11, a, none⟩ v) := fun v => (Out.refl _ _ _).setCell (.inl ⟨Nat.le_refl _, Nat.lt_succ_self _⟩) _
    go_wp2_with fail
    refine wp_region_held_drew (S := fun w' => w'.cell? ⟨s 14, 0, none⟩ = some (.slice (some ⟨s 11, 0, none⟩) (64 * n) cap) ∧ w'.cell? ⟨w.heap.size, 0, none⟩ = some (.int .i64 (a : Int)) ∧ w'.cell? ⟨w.heap.size, 1, none⟩ = some (.int .i64 k) ∧ w'.cell? ⟨w.heap.size, 2, none⟩ = some (.int .i64 z) ∧ w'.cell? ⟨w.heap.size, 3, none⟩ = some (.int .i64 x) ∧ w'.cell? ⟨w.heap.size, 4, none⟩ = some (.int .i64 t)) (by kernel_rfl) ?hS74 (fun hHeld => ?rest74)
    case hS74 => exact ⟨d0, q0, q1, q2, q3, q4⟩
    refine wpAnyH_take (i := 0) (v := ?v75) rfl (by kernel_rfl) (by kernel_rfl) (by kernel_rfl) (fun _ _ _ h => h) (Or.inl ⟨by rfl, ?hy75⟩) (by assumption) ?rest75
    case hy75 => (intro w hSw; (try dsimp only at hSw); simp only [List.getElem_toArray, List.getElem_cons_zero, List.getElem_cons_succ]; go_simp; (try with_reducible rfl))
    (try simp only [Act.put, List.getElem_toArray, List.getElem_cons_zero, List.getElem_cons_succ, List.setIfInBounds_toArray, List.set_cons_zero, List.set_cons_succ])
    refine wpAnyH_take (i := 1) (v := ?v76) rfl (by kernel_rfl) (by kernel_rfl) (by kernel_rfl) (fun _ _ _ h => h) (Or.inl ⟨by rfl, ?hy76⟩) (by assumption) ?rest76
    case hy76 => (intro w hSw; (try dsimp only at hSw); simp only [List.getElem_toArray, List.getElem_cons_zero, List.getElem_cons_succ]; go_simp; (try with_reducible rfl))
    (try simp only [Act.put, List.getElem_toArray, List.getElem_cons_zero, List.getElem_cons_succ, List.setIfInBounds_toArray, List.set_cons_zero, List.set_cons_succ])
    refine wpAnyH_take (i := 2) (v := ?v77) rfl (by kernel_rfl) (by kernel_rfl) (by kernel_rfl) (fun _ _ _ h => h) (Or.inl ⟨by rfl, ?hy77⟩) (by assumption) ?rest77
    case hy77 => (intro w hSw; (try dsimp only at hSw); simp only [List.getElem_toArray, List.getElem_cons_zero, List.getElem_cons_succ]; go_simp; (try with_reducible rfl))
    (try simp only [Act.put, List.getElem_toArray, List.getElem_cons_zero, List.getElem_cons_succ, List.setIfInBounds_toArray, List.set_cons_zero, List.set_cons_succ])
    refine wpAnyH_take (i := 3) (v := ?v78) rfl (by kernel_rfl) (by kernel_rfl) (by kernel_rfl) (fun _ _ _ h => h) (Or.inl ⟨by rfl, ?hy78⟩) (by assumption) ?rest78
    case hy78 => (intro w hSw; (try dsimp only at hSw); simp only [List.getElem_toArray, List.getElem_cons_zero, List.getElem_cons_succ]; go_simp; (try with_reducible rfl))
    (try simp only [Act.put, List.getElem_toArray, List.getElem_cons_zero, List.getElem_cons_succ, List.setIfInBounds_toArray, List.set_cons_zero, List.set_cons_succ])
    refine wpAnyH_take (i := 4) (v := ?v79) rfl (by kernel_rfl) (by kernel_rfl) (by kernel_rfl) (fun _ _ _ h => h) (Or.inl ⟨by rfl, ?hy79⟩) (by assumption) ?rest79
    case hy79 => (intro w hSw; (try dsimp only at hSw); simp only [List.getElem_toArray, List.getElem_cons_zero, List.getElem_cons_succ]; go_simp; (try with_reducible rfl))
    (try simp only [Act.put, List.getElem_toArray, List.getElem_cons_zero, List.getElem_cons_succ, List.setIfInBounds_toArray, List.set_cons_zero, List.set_cons_succ])
    refine wpAnyH_take (i := 5) (v := ?v80) rfl (by kernel_rfl) (by kernel_rfl) (by kernel_rfl) (fun _ _ _ h => h) (Or.inl ⟨by rfl, ?hy80⟩) (by assumption) ?rest80
    case hy80 => (intro w hSw; (try dsimp only at hSw); simp only [List.getElem_toArray, List.getElem_cons_zero, List.getElem_cons_succ]; go_simp; (try with_reducible rfl))
    (try simp only [Act.put, List.getElem_toArray, List.getElem_cons_zero, List.getElem_cons_succ, List.setIfInBounds_toArray, List.set_cons_zero, List.set_cons_succ])
    refine wpAnyH_take (i := 6) (v := ?v81) rfl (by kernel_rfl) (by kernel_rfl) (by kernel_rfl) (fun _ _ _ h => h) (Or.inl ⟨by rfl, ?hy81⟩) (by assumption) ?rest81
    case hy81 => (intro w hSw; (try dsimp only at hSw); simp only [List.getElem_toArray, List.getElem_cons_zero, List.getElem_cons_succ]; go_simp; (try with_reducible rfl))
    (try simp only [Act.put, List.getElem_toArray, List.getElem_cons_zero, List.getElem_cons_succ, List.setIfInBounds_toArray, List.set_cons_zero, List.set_cons_succ])
    refine wpAnyH_take (i := 7) (v := ?v82) rfl (by kernel_rfl) (by kernel_rfl) (by kernel_rfl) (fun _ _ _ h => h) (Or.inl ⟨by rfl, ?hy82⟩) (by assumption) ?rest82
    case hy82 => (intro w hSw; (try dsimp only at hSw); simp only [List.getElem_toArray, List.getElem_cons_zero, List.getElem_cons_succ]; go_simp; (try with_reducible rfl))
    (try simp only [Act.put, List.getElem_toArray, List.getElem_cons_zero, List.getElem_cons_succ, List.setIfInBounds_toArray, List.set_cons_zero, List.set_cons_succ])
    refine wpAnyH_take (i := 8) (v := ?v83) rfl (by kernel_rfl) (by kernel_rfl) (by kernel_rfl) (fun _ _ _ h => h) (Or.inl ⟨by rfl, ?hy83⟩) (by assumption) ?rest83
    case hy83 => (intro w hSw; (try dsimp only at hSw); simp only [List.getElem_toArray, List.getElem_cons_zero, List.getElem_cons_succ]; go_simp; (try with_reducible rfl))
    (try simp only [Act.put, List.getElem_toArray, List.getElem_cons_zero, List.getElem_cons_succ, List.setIfInBounds_toArray, List.set_cons_zero, List.set_cons_succ])
    refine wpAnyH_take (i := 9) (v := ?v84) rfl (by kernel_rfl) (by kernel_rfl) (by kernel_rfl) (fun _ _ _ h => h) (Or.inl ⟨by rfl, ?hy84⟩) (by assumption) ?rest84
    case hy84 => (intro w hSw; (try dsimp only at hSw); simp only [List.getElem_toArray, List.getElem_cons_zero, List.getElem_cons_succ]; go_simp; (try with_reducible rfl))
    (try simp only [Act.put, List.getElem_toArray, List.getElem_cons_zero, List.getElem_cons_succ, List.setIfInBounds_toArray, List.set_cons_zero, List.set_cons_succ])
    refine wpAnyH_take (i := 10) (v := ?v85) rfl (by kernel_rfl) (by kernel_rfl) (by kernel_rfl) (fun _ _ _ h => h) (Or.inl ⟨by rfl, ?hy85⟩) (by assumption) ?rest85
    case hy85 => (intro w hSw; (try dsimp only at hSw); simp only [List.getElem_toArray, List.getElem_cons_zero, List.getElem_cons_succ]; go_simp; (try with_reducible rfl))
    (try simp only [Act.put, List.getElem_toArray, List.getElem_cons_zero, List.getElem_cons_succ, List.setIfInBounds_toArray, List.set_cons_zero, List.set_cons_succ])
    refine wpAnyH_take (i := 11) (v := ?v86) rfl (by kernel_rfl) (by kernel_rfl) (by kernel_rfl) (fun _ _ _ h => h) (Or.inl ⟨by rfl, ?hy86⟩) (by assumption) ?rest86
    case hy86 => (intro w hSw; (try dsimp only at hSw); simp only [List.getElem_toArray, List.getElem_cons_zero, List.getElem_cons_succ]; go_simp; (try with_reducible rfl))
    (try simp only [Act.put, List.getElem_toArray, List.getElem_cons_zero, List.getElem_cons_succ, List.setIfInBounds_toArray, List.set_cons_zero, List.set_cons_succ])
    refine wpAnyH_ready (rs := [12]) (by kernel_rfl) (by simp) ?_
    refine AllReadyH.cons rfl (fun KK hK => ?_) AllReadyH.nil
    simp only [List.getElem_toArray, List.getElem_cons_zero, List.getElem_cons_succ]
    go_simp
    refine (HM.out _).mono ?_
    rintro e w7 ⟨rfl, rfl⟩
    refine hK.out _ _ ?hS87 (fun hHeld2 => ?rest87)
    case hS87 => exact hHeld
    clear hK KK
    (try clear hHeld)
    have hHeld := hHeld2
    clear hHeld2
    (try simp only [Act.put, List.getElem_toArray, List.getElem_cons_zero, List.getElem_cons_succ, List.setIfInBounds_toArray, List.set_cons_zero, List.set_cons_succ])
    refine wpAnyH_take (i := 13) (v := ?v88) rfl (by kernel_rfl) (by kernel_rfl) (by kernel_rfl) (fun _ _ _ h => h) (Or.inl ⟨by rfl, ?hy88⟩) (by assumption) ?rest88
    case hy88 => (intro w hSw; (try dsimp only at hSw); simp only [List.getElem_toArray, List.getElem_cons_zero, List.getElem_cons_succ]; go_simp; (try with_reducible rfl))
    (try simp only [Act.put, List.getElem_toArray, List.getElem_cons_zero, List.getElem_cons_succ, List.setIfInBounds_toArray, List.set_cons_zero, List.set_cons_succ])
    refine wpAnyH_ready (rs := [14]) (by kernel_rfl) (by simp) ?_
    refine AllReadyH.cons rfl (fun KK hK => ?_) AllReadyH.nil
    simp only [List.getElem_toArray, List.getElem_cons_zero, List.getElem_cons_succ]
    go_simp
    refine hK.out _ _ ?hS89 (fun hHeld2 => ?rest89)
    case hS89 => exact ⟨(ho9 _).cell hHeld.1 (by have := HD.out; omega), (ho9 _).cell hHeld.2.1 (by have := HD.out; omega), (ho9 _).cell hHeld.2.2.1 (by have := HD.out; omega), (ho9 _).cell hHeld.2.2.2.1 (by have := HD.out; omega), (ho9 _).cell hHeld.2.2.2.2.1 (by have := HD.out; omega), (ho9 _).cell hHeld.2.2.2.2.2 (by have := HD.out; omega)⟩
    clear hK KK
    (try clear hHeld)
    have hHeld := hHeld2
    clear hHeld2
    (try simp only [Act.put, List.getElem_toArray, List.getElem_cons_zero, List.getElem_cons_succ, List.setIfInBounds_toArray, List.set_cons_zero, List.set_cons_succ])
    refine wpAnyH_done (by kernel_rfl) ?_ _
    clear hHeld
    go_wp2
    have hp := (HR6.out.quiet ((Out.refl 0 0 _).drew)).poke a (makeV (a : Int) k z)
    refine bodyPost_end (results_none Tryd.results40 _ _ _) rfl ⟨⟨_, rfl⟩, hp.1.congr ?_, ((H0.out.any lo hi).trans HO6.out).trans ((((Out.refl 0 0 _).drew).any lo hi).trans ((HR6.out.quiet ((Out.refl 0 0 _).drew)).wide (i := 11) (by omega) hp.2))⟩
    refine Raw.eq rfl rfl rfl ?_ rfl ?_ rfl
    · exact hPe.out
    · exact hRe.out
end
end Go.Proofs.YtjbbkeoolodeaabDoor
namespace Go.Proofs.YtjbbkeoolodeaabDoor
open Go.RowKit
set_option linter.unusedVariables false
set_option linter.unusedSimpArgs false

/-- what is taken of a class: the place, the error and its place -/
def TkB (lo hi : Nat) (s : Nat → Nat) (n cap : Nat) (r : Raw) (c : Nat) (v e1 e2 : Int) (w' : World) : Prop :=
  (nxr (r.F c) (64 * n) 0 = -1 ∧ ∃ p, rowF r.S n 1 = some p ∧ v = ((64 * p : Nat) : Int) ∧ e1 = 0 ∧ e2 = 0 ∧ RawAt w' lo hi s n cap (tpR n r c p)) ∨
  (nxr (r.F c) (64 * n) 0 = -1 ∧ rowF r.S n 1 = none ∧ v = 0 ∧ e1 = 20 ∧ e2 = 0 ∧ RawAt w' lo hi s n cap r) ∨
  (∃ a : Nat, nxr (r.F c) (64 * n) 0 = a ∧ a < 64 * n ∧ r.F c a = true ∧ r.W a = linkV (nxr (r.F c) (64 * n) (a + 1)) ∧ v = (a : Int) ∧ e1 = 0 ∧ e2 = 0 ∧ RawAt w' lo hi s n cap { r with F := fun d => if d = c then upd (r.F c) a false else r.F d }) ∨
  (∃ a : Nat, nxr (r.F c) (64 * n) 0 = a ∧ a < 64 * n ∧ r.F c a = true ∧ r.W a ≠ linkV (nxr (r.F c) (64 * n) (a + 1)) ∧ v = 0 ∧ e1 = 21 ∧ e2 = (a : Int) ∧ RawAt w' lo hi s n cap r)
def TkR (lo hi : Nat) (s : Nat → Nat) (n cap : Nat) (r : Raw) (k : Nat) (v e1 e2 : Int) (w' : World) : Prop :=
  (∃ p, rowF r.S n k = some p ∧ v = ((64 * p : Nat) : Int) ∧ e1 = 0 ∧ e2 = 0 ∧ RawAt w' lo hi s n cap { r with S := setR r.S p k }) ∨ (rowF r.S n k = none ∧ v = 0 ∧ e1 = 20 ∧ e2 = 0 ∧ RawAt w' lo hi s n cap r)
section
variable {w w' : World} {lo hi n cap : Nat} {s : Nat → Nat} {r : Raw}
theorem TkB.kept {c x y : Nat} {v e1 e2 : Int} (h : TkB lo hi s n cap r c v e1 e2 w) (o : Out x y w w') (hd : hi ≤ x) (hg : 4 ≤ x) : TkB lo hi s n cap r c v e1 e2 w' := by
  rcases h with ⟨h1, p, h2, h3, h4, h5, h6⟩ | ⟨h1, h2, h3, h4, h5, h6⟩ | ⟨a, h1, h2, h3, h4, h5, h6, h7, h8⟩ | ⟨a, h1, h2, h3, h4, h5, h6, h7, h8⟩
  · exact .inl ⟨h1, p, h2, h3, h4, h5, h6.kept o (.inl hd) (.inl hg)⟩
  · exact .inr (.inl ⟨h1, h2, h3, h4, h5, h6.kept o (.inl hd) (.inl hg)⟩)
  · exact .inr (.inr (.inl ⟨a, h1, h2, h3, h4, h5, h6, h7, h8.kept o (.inl hd) (.inl hg)⟩))
  · exact .inr (.inr (.inr ⟨a, h1, h2, h3, h4, h5, h6, h7, h8.kept o (.inl hd) (.inl hg)⟩))
theorem TkR.kept {k x y : Nat} {v e1 e2 : Int} (h : TkR lo hi s n cap r k v e1 e2 w) (o : Out x y w w') (hd : hi ≤ x) (hg : 4 ≤ x) : TkR lo hi s n cap r k v e1 e2 w' := by
  rcases h with ⟨p, h2, h3, h4, h5, h6⟩ | ⟨h2, h3, h4, h5, h6⟩
  · exact .inl ⟨p, h2, h3, h4, h5, h6.kept o (.inl hd) (.inl hg)⟩
  · exact .inr ⟨h2, h3, h4, h5, h6.kept o (.inl hd) (.inl hg)⟩
theorem takeBlock_told (h : RawAt w lo hi s n cap r) {c : Nat} (hc : c < 8) :
    Calls Tryd.prog 61 #[.pointer (some ⟨s 14, 0, none⟩), .int .i64 (c : Int)] w fun e w' => ∃ v e1 e2, e = .returned (.tuple #[.int .i64 v, .agg #[.int .i64 e1, .int .i64 e2]]) ∧ TkB lo hi s n cap r c v e1 e2 w' ∧ Out lo hi w w' := by
  refine (takeBlock_any h hc).mono ?_
  rintro e w' ⟨⟨h1, h2⟩ | ⟨a, h1, h2, h3, h4, rfl, h6⟩ | ⟨a, h1, h2, h3, h4, rfl, h6⟩, ho⟩
  · cases hf : rowF r.S n 1 with
    | none =>
      rw [hf] at h2
      obtain ⟨rfl, h3⟩ := h2
      exact ⟨_, _, _, rfl, .inr (.inl ⟨h1, hf, rfl, rfl, rfl, h3⟩), ho⟩
    | some p =>
      rw [hf] at h2
      obtain ⟨rfl, h3⟩ := h2
      exact ⟨_, _, _, rfl, .inl ⟨h1, p, hf, rfl, rfl, rfl, h3⟩, ho⟩
  · exact ⟨_, _, _, rfl, .inr (.inr (.inl ⟨a, h1, h2, h3, h4, rfl, rfl, rfl, h6⟩)), ho⟩
  · exact ⟨_, _, _, rfl, .inr (.inr (.inr ⟨a, h1, h2, h3, h4, rfl, rfl, rfl, h6⟩)), ho⟩
theorem takeRun_told (h : RawAt w lo hi s n cap r) (k : Nat) (h1 : 1 ≤ k) (h2 : k ≤ 16) :
    Calls Tryd.prog 60 #[.pointer (some ⟨s 14, 0, none⟩), .int .i64 (k : Int)] w fun e w' => ∃ v e1 e2, e = .returned (.tuple #[.int .i64 v, .agg #[.int .i64 e1, .int .i64 e2]]) ∧ TkR lo hi s n cap r k v e1 e2 w' ∧ Out lo hi w w' := by
  refine (spTakeRun_any h k h1 h2).mono ?_
  rintro e w' ⟨h2, ho⟩
  cases hf : rowF r.S n k with
  | none =>
    rw [hf] at h2
    obtain ⟨rfl, h3⟩ := h2
    exact ⟨_, _, _, rfl, .inr ⟨hf, rfl, rfl, rfl, h3⟩, ho⟩
  | some p =>
    rw [hf] at h2
    obtain ⟨rfl, h3⟩ := h2
    exact ⟨_, _, _, rfl, .inl ⟨p, hf, rfl, rfl, rfl, h3⟩, ho⟩
/-- what is taken for a size -/
def TkS (lo hi : Nat) (s : Nat → Nat) (n cap : Nat) (r : Raw) (z : Int) (v e1 e2 : Int) (w' : World) : Prop :=
  (32 < z ∧ TkR lo hi s n cap r ((z + 63) / 64).toNat v e1 e2 w') ∨ (z ≤ 32 ∧ TkB lo hi s n cap r (ofV z).toNat v e1 e2 w')
theorem TkS.kept {x y : Nat} {z v e1 e2 : Int} (h : TkS lo hi s n cap r z v e1 e2 w) (o : Out x y w w') (hd : hi ≤ x) (hg : 4 ≤ x) : TkS lo hi s n cap r z v e1 e2 w' := by
  rcases h with ⟨h1, h2⟩ | ⟨h1, h2⟩
  · exact .inl ⟨h1, h2.kept o hd hg⟩
  · exact .inr ⟨h1, h2.kept o hd hg⟩
set_option maxHeartbeats 1000000 in
theorem take_any (h : RawAt w lo hi s n cap r) {z : Int} (z1 : 1 ≤ z) (z2 : z ≤ 1024) :
    Calls Tryd.prog 39 #[.pointer (some ⟨s 14, 0, none⟩), .int .i64 z] w fun e w' => ∃ v e1 e2, e = .returned (.tuple #[.int .i64 v, .agg #[.int .i64 e1, .int .i64 e2]]) ∧ TkS lo hi s n cap r z v e1 e2 w' ∧ Out lo hi w w' := by
  have h0 : Out 0 0 w (w.alloc (.cells #[.int .i64 0, .int .i64 0] 57)) := (Out.refl 0 0 w).alloc _
  have HZ := hid_mk (fz_new w)
  have H0 := hid_mk h0
  have HQ := hid_mk (fun w' (o : Out 0 0 w w') => h.quiet o)
  have HT : Hid (hi ≤ w.heap.size ∧ 4 ≤ w.heap.size ∧ n ≤ 4096) := ⟨h.top, h.tab.lt, h.n2⟩
  have HP := hid_mk (calls_out (pages_any z (w.alloc (.cells #[.int .i64 0, .int .i64 0] 57))) (Out.refl 0 0 _))
  by_cases hz : 32 < z
  · obtain ⟨k1, k2, k3⟩ := run_k hz z2
    obtain ⟨k, hk⟩ : ∃ k, ((z + 63) / 64).toNat = k := ⟨_, rfl⟩
    rw [hk] at k1 k2 k3
    have hpz : pagesV z = (k : Int) := by unfold pagesV; rw [if_pos ⟨hz, z2⟩]; omega
    rw [hpz] at HP
    have HR := hid_mk (fun w' (o : Out 0 0 w w') => takeRun_told (h.quiet o) k k1 k2)
    have b0 : (0 : Int) < (k : Int) := by omega
    have HE : Hid (32 < z ∧ ((z + 63) / 64).toNat = k) := ⟨hz, hk⟩
    clear h h0 hz hk k3 hpz z1 z2 k1 k2
    go_enter Tryd.func39, Tryd.ntmps39
    go_wp2_with (first
      | (go_at_call 59; refine HP.out.mono ?_; rintro e w1 ⟨rfl, ho⟩; have HO1 := hid_mk (H0.out.trans ho); have HB1 := hid_mk (ho.heap HZ.out (.inr (Nat.zero_le _))); clear ho)
      | (go_at_call 60; refine (HR.out _ HO1.out).mono ?_; rintro e w2 ⟨v, e1, e2, rfl, ht, ho⟩; have HT2 := hid_mk ht; have HO2 := hid_mk ((HO1.out.any lo hi).trans ho); obtain ⟨q4, q5, q6, q7⟩ := flt_facts (ho.heap HB1.out (.inr HT.out.1)); have HB2 := hid_mk (ho.heap HB1.out (.inr HT.out.1)); clear ht ho))
    refine retIF Tryd.results39 rfl rfl rfl (flt_set HB2.out) ⟨v, e1, e2, rfl, .inl ⟨HE.out.1, by rw [HE.out.2]; exact HT2.out.kept ((Out.refl w.heap.size (w.heap.size + 1) _).set2 (.inl ⟨Nat.le_refl _, Nat.lt_succ_self _⟩) _ _) HT.out.1 HT.out.2.1⟩, HO2.out.set2 (.inr (Nat.le_refl _)) _ _⟩
  · have hz' : z ≤ 32 := by omega
    obtain ⟨c0, c7, _⟩ := of_small z1 hz'
    obtain ⟨c, hc⟩ : ∃ c : Nat, ofV z = c := ⟨(ofV z).toNat, by omega⟩
    have hpz : pagesV z = 0 := (roomN_small z1 hz').2
    rw [hpz] at HP
    have HF := hid_mk (fun w' (o : Out 0 0 w w') => calls_out (of_any z w') o)
    rw [hc] at HF
    have HR := hid_mk (fun w' (o : Out 0 0 w w') => takeBlock_told (h.quiet o) (c := c) (by omega))
    have HE : Hid (z ≤ 32 ∧ (ofV z).toNat = c) := ⟨hz', by omega⟩
    have HF2 := hid_mk (fun w' => calls_out (of_any z w') (Out.refl 0 0 w'))
    rw [hc] at HF2
    clear h h0 hz hz' hpz z1 z2 c0 c7 hc
    go_enter Tryd.func39, Tryd.ntmps39
    go_wp2_with (first
      | (go_at_call 59; refine HP.out.mono ?_; rintro e w1 ⟨rfl, ho⟩; have HO1 := hid_mk (H0.out.trans ho); have HB1 := hid_mk (ho.heap HZ.out (.inr (Nat.zero_le _))); clear ho)
      | (go_at_call 62; refine (HF2.out _).mono ?_; rintro e w3 ⟨rfl, ho⟩; have HO3 := hid_mk (HO1.out.trans ho); have HB3 := hid_mk (ho.heap HB1.out (.inr (Nat.zero_le _))); clear ho)
      | (go_at_call 61; refine (HR.out _ HO3.out).mono ?_; rintro e w2 ⟨v, e1, e2, rfl, ht, ho⟩; have HT2 := hid_mk ht; have HO2 := hid_mk ((HO3.out.any lo hi).trans ho); obtain ⟨q4, q5, q6, q7⟩ := flt_facts (ho.heap HB3.out (.inr HT.out.1)); have HB2 := hid_mk (ho.heap HB3.out (.inr HT.out.1)); clear ht ho))
    refine retIF Tryd.results39 rfl rfl rfl (flt_set HB2.out) ⟨v, e1, e2, rfl, .inr ⟨HE.out.1, by rw [HE.out.2]; exact HT2.out.kept ((Out.refl w.heap.size (w.heap.size + 1) _).set2 (.inl ⟨Nat.le_refl _, Nat.lt_succ_self _⟩) _ _) HT.out.1 HT.out.2.1⟩, HO2.out.set2 (.inr (Nat.le_refl _)) _ _⟩
theorem number_any (h : RawAt w lo hi s n cap r) (k : Int) (hl : r.last < 4611686018427387904) (hl0 : 0 ≤ r.last) :
    Calls Tryd.prog 41 #[.pointer (some ⟨s 14, 0, none⟩), .int .i64 k] w fun e w' => e = .returned (.int .i64 (if numB k then r.last + 1 else 0)) ∧ RawAt w' lo hi s n cap { r with last := if numB k then r.last + 1 else r.last } ∧ Out lo hi w w' := by
  have HN := hid_mk (fun w' => numbered_any k w')
  obtain ⟨c0, c1, c2, c3, c4, c5⟩ := h.cells
  have f5 := h.cellL
  have HS := hid_mk (h.setL (r.last + 1))
  have HW := hid_mk (h.wide (i := 14) (by omega) HS.out.2)
  have HR := hid_mk h
  cases hb : numB k with
  | true =>
    have e : (decide (1 ≤ k) && decide (k ≤ 11)) = true := hb
    rw [e] at HN
    simp only [if_true]
    clear h hb e
    go_enter Tryd.func41, Tryd.ntmps41
    go_wp2_with (first | (go_at_call 66; refine calls_same (HN.out _) ?_))
    go_ret
    exact ⟨rfl, HS.out.1, HW.out⟩
  | false =>
    have e : (decide (1 ≤ k) && decide (k ≤ 11)) = false := hb
    rw [e] at HN
    simp only [Bool.false_eq_true, if_false]
    clear h hb e
    go_enter Tryd.func41, Tryd.ntmps41
    go_wp2_with (first | (go_at_call 66; refine calls_same (HN.out _) ?_))
    go_ret
    exact ⟨rfl, HR.out, Out.refl _ _ _⟩
end
end Go.Proofs.YtjbbkeoolodeaabDoor
namespace Go.Proofs.YtjbbkeoolodeaabDoor
open Go.RowKit
set_option linter.unusedVariables false
set_option linter.unusedSimpArgs false

section
variable {n a : Nat} {st : Sp} {fresh : Bool} {kd z t : Int}
theorem takeF_O : (takeF n st a fresh kd z t).O = putO st.O a (kd, z, serOf st kd, t) := rfl
theorem ob_take (hf : fitsB kd z = true) (ha : a < 64 * n) : upd (ob n st) a true = ob n (takeF n st a fresh kd z t) := by
  have hk := fits_size hf
  have hb : hasB (kd, z, serOf st kd, t) = true := by unfold hasB; simp; omega
  funext i
  unfold upd ob
  rw [takeF_O, hasB_put]
  by_cases e : i = a
  · subst e; rw [if_pos rfl, if_pos rfl, hb]; simp [ha]
  · rw [if_neg e, if_neg e]
theorem obM_take (hf : fitsB kd z = true) : (fun i => if i = (a : Int) then some (kd, z, serOf st kd, t) else obM st i) = obM (takeF n st a fresh kd z t) := by
  have hk := fits_size hf
  have hb : hasB (kd, z, serOf st kd, t) = true := by unfold hasB; simp; omega
  funext i
  unfold obM
  rw [takeF_O, hasB_put]
  by_cases e : i = (a : Int)
  · subst e
    rw [if_pos rfl, Int.toNat_natCast, if_pos rfl, if_pos ⟨by omega, hb⟩]
    unfold putO
    rw [if_pos rfl]
  · rw [if_neg e]
    by_cases h0 : 0 ≤ i
    · have e2 : i.toNat ≠ a := by omega
      rw [if_neg e2]
      unfold putO
      rw [if_neg e2]
    · rw [if_neg (by omega), if_neg (by omega)]
theorem serM_take (hi : Inv n st) (hf : fitsB kd z = true) (ha : a < 64 * n) (hno : hasB (st.O a) = false) :
    (if 0 < serOf st kd then (fun i => if i = serOf st kd then some (a : Int) else serM n st i) else serM n st) = serM n (takeF n st a fresh kd z t) := by
  have hk := fits_size hf
  have hb : hasB (kd, z, serOf st kd, t) = true := by unfold hasB; simp; omega
  have other : ∀ x : Int, 1 ≤ x → x ≠ serOf st kd → serM n (takeF n st a fresh kd z t) x = serM n st x := by
    intro x x1 x2
    unfold serM serF
    rw [if_pos x1, if_pos x1]
    congr 1
    congr 1
    refine congrArg (fun f => List.find? f (List.range (64 * n))) (funext fun i => ?_)
    rw [takeF_O]
    by_cases e : i = a
    · subst e
      rw [hno]
      unfold putO
      rw [if_pos rfl, hb]
      have : ((kd, z, serOf st kd, t) : Blk).2.2.1 = serOf st kd := rfl
      rw [this, beq_eq_false_iff_ne.mpr (fun h => x2 h.symm)]
      rfl
    · unfold putO
      rw [if_neg e]
  have low : ∀ x : Int, x < 1 → ∀ q : Sp, serM n q x = none := by
    intro x hx q
    unfold serM serF
    rw [if_neg (by omega)]
    rfl
  funext x
  by_cases hn : numB kd = true
  · have hs : serOf st kd = st.last + 1 := by unfold serOf; rw [if_pos hn]
    have h0 := hi.last0
    rw [if_pos (by omega)]
    by_cases e : x = serOf st kd
    · rw [if_pos e]
      unfold serM serF
      rw [if_pos (by omega)]
      rw [find_range_some (p := a) ha]
      · rfl
      · rw [takeF_O]
        unfold putO
        rw [if_pos rfl, hb, e]
        simp
      · intro q hq
        rw [takeF_O]
        unfold putO
        rw [if_neg (by omega)]
        cases hq2 : hasB (st.O q) with
        | false => rfl
        | true =>
          have := hi.ser q hq2
          rw [Bool.true_and, beq_eq_false_iff_ne]
          intro e2
          cases hn2 : numB (st.O q).1 with
          | true => have := (this.1 hn2).2; omega
          | false => have := this.2 hn2; omega
    · rw [if_neg e]
      by_cases x1 : 1 ≤ x
      · exact (other x x1 e).symm
      · rw [low x (by omega), low x (by omega)]
  · have hs : serOf st kd = 0 := by unfold serOf; rw [if_neg hn]
    rw [if_neg (by omega)]
    by_cases x1 : 1 ≤ x
    · exact (other x x1 (by omega)).symm
    · rw [low x (by omega), low x (by omega)]
/-- the raw parts, with the last serial turned -/
def numR (r : Raw) (st : Sp) (kd : Int) : Raw := { r with last := if numB kd then st.last + 1 else st.last }
theorem tie_run {p : Nat} (hi : Inv n st) (hf : fitsB kd z = true) (h32 : 32 < z) (hr : rowF st.S n ((z + 63) / 64).toNat = some p) :
    enR (numR { rawOf n st with S := setR st.S p ((z + 63) / 64).toNat } st kd) (64 * p) kd z (serOf st kd) t = rawOf n (takeF n st (64 * p) false kd z t) := by
  obtain ⟨h1, h2, h3, h4⟩ := take_run (t := t) hi hf h32 hr
  have hp := rowF_some hr
  refine Raw.eq rfl ?_ ?_ (ob_take hf (by omega)) (obM_take hf) (serM_take hi hf (by omega) h3) rfl
  · show setR st.S p _ = takeS st (64 * p) false z
    unfold takeS
    rw [if_pos h32, show 64 * p / 64 = p from by omega]
  · funext c
    exact (h2 (c : Int)).symm
theorem tie_block (hi : Inv n st) (hf : fitsB kd z = true) (h32 : z ≤ 32) (ha : fr n st (ofV z) a = true) {c : Nat} (hc : ofV z = c) :
    enR (numR { rawOf n st with F := fun d => if d = c then upd (fr n st (c : Int)) a false else fr n st (d : Int) } st kd) a kd z (serOf st kd) t = rawOf n (takeF n st a false kd z t) := by
  obtain ⟨h1, h2, h3⟩ := take_block (t := t) hi hf h32 ha
  obtain ⟨f1, f2, f3, f4⟩ := fr_iff.1 ha
  refine Raw.eq rfl ?_ ?_ (ob_take hf f1) (obM_take hf) (serM_take hi hf f1 f4) rfl
  · show st.S = takeS st a false z
    unfold takeS
    rw [if_neg (by omega)]; rfl
  · funext d
    show (if d = c then upd (fr n st (c : Int)) a false else fr n st (d : Int)) = fr n (takeF n st a false kd z t) (d : Int)
    rw [h2]
    by_cases e : d = c
    · rw [if_pos e, e]
    · rw [if_neg e]
      funext i
      unfold upd
      by_cases e2 : i = a
      · rw [if_pos e2, e2]; exact h3 _ (by omega)
      · rw [if_neg e2]
theorem tie_fresh {p : Nat} (hi : Inv n st) (hf : fitsB kd z = true) (h32 : z ≤ 32) (hr : rowF st.S n 1 = some p) {c : Nat} (hc : ofV z = c) (hc8 : c < 8) :
    enR (numR (tpR n (rawOf n st) c p) st kd) (64 * p) kd z (serOf st kd) t = rawOf n (takeF n st (64 * p) true kd z t) := by
  obtain ⟨h1, h2, h3, h4, h5⟩ := take_fresh (t := t) hi hf h32 hr
  have hF : ∀ d : Nat, tpF (rawOf n st) c p d = fr n (takeF n st (64 * p) true kd z t) (d : Int) := by
    intro d
    funext i
    rw [h2, hc]
    unfold tpF
    by_cases e : i / 64 = p
    · rw [if_pos e]
      have ez : ∀ q : Int, fr n st q i = false := by
        intro q
        cases hh : fr n st q i with
        | false => rfl
        | true =>
          have := (fr_iff.1 hh).2.1
          rw [e, h5] at this
          simp at this
      by_cases e2 : d = c
      · rw [if_pos e2, e2]
        unfold upd fuR
        show (if i = 64 * p then false else (fr n st (c : Int) i || (decide (i / 64 = p) && startB (c : Int) (i % 64) && !ob n st i))) = _
        have eo : ob n st i = false := by rw [ob_has hi]; exact h3 i e
        rw [ez, eo]
        by_cases e3 : i = 64 * p
        · rw [if_pos e3]; simp [e3]
        · rw [if_neg e3]; simp [e3, e]
      · rw [if_neg e2]
        show fr n st (d : Int) i = _
        rw [ez, show decide ((d : Int) = (c : Int)) = false from by simp; omega]
        rfl
    · rw [if_neg e]
      by_cases e2 : d = c
      · rw [if_pos e2, e2]
        unfold upd fuR
        rw [if_neg (by omega)]
        show (fr n st (c : Int) i || (decide (i / 64 = p) && startB (c : Int) (i % 64) && !ob n st i)) = _
        simp [e]
      · rw [if_neg e2]; rfl
  refine Raw.eq ?_ ?_ (funext hF) (ob_take hf (by omega)) (obM_take hf) (serM_take hi hf (by omega) (h3 _ (by omega))) rfl
  · show updW (zeroW (linkR n (tp4 (rawOf n st) c p) c) (64 * p) (roomN z)) (64 * p) (makeV ((64 * p : Nat) : Int) kd z) = (takeF n st (64 * p) true kd z t).W
    have e1 : linkR n (tp4 (rawOf n st) c p) c = linkW n ⟨zeroW st.W (64 * p) 64, takeS st (64 * p) true z, putO st.O (64 * p) (kd, z, serOf st kd, t), 0⟩ (ofV z) := by
      have e2 : (tp4 (rawOf n st) c p).F c = fr n ⟨zeroW st.W (64 * p) 64, takeS st (64 * p) true z, putO st.O (64 * p) (kd, z, serOf st kd, t), 0⟩ (ofV z) := by
        rw [hc]
        exact hF c
      funext i
      unfold linkR linkW nf
      rw [e2]
      rfl
    rw [e1]
    rfl
  · show setC st.S p (c : Int) = takeS st (64 * p) true z
    unfold takeS
    rw [if_neg (by omega), if_pos rfl, show 64 * p / 64 = p from by omega, hc]
end
end Go.Proofs.YtjbbkeoolodeaabDoor
namespace Go.Proofs.YtjbbkeoolodeaabDoor
open Go.RowKit
set_option linter.unusedVariables false
set_option linter.unusedSimpArgs false

/-- what take has told, in the words of Alloc -/
theorem tkS_cases {lo hi' n cap : Nat} {s : Nat → Nat} {st : Sp} {kd z t v e1 e2 : Int} {w' : World} (hi : Inv n st) (hf : fitsB kd z = true) (h : TkS lo hi' s n cap (rawOf n st) z v e1 e2 w') :
    (e1 ≠ 0 ∧ v = 0 ∧ RawAt w' lo hi' s n cap (rawOf n st) ∧ alF n st kd z t = (0, e1, e2, st)) ∨
    (e1 = 0 ∧ e2 = 0 ∧ ∃ (a : Nat) (r1 : Raw) (st' : Sp), v = (a : Int) ∧ RawAt w' lo hi' s n cap r1 ∧ r1.last = st.last ∧ a + roomN z ≤ 64 * n ∧ a < 64 * n ∧ alF n st kd z t = ((a : Int), 0, 0, st') ∧ enR (numR r1 st kd) a kd z (serOf st kd) t = rawOf n st' ∧ Inv n st') := by
  have hz := fits_size hf
  unfold alF
  rw [if_pos hf]
  rcases h with ⟨h32, h⟩ | ⟨h32, h⟩
  · have hpl : placeF n st z = (rowF st.S n ((z + 63) / 64).toNat).map fun p => (64 * p, false) := by unfold placeF; rw [if_pos h32]
    rw [hpl]
    rcases h with ⟨p, h2, h3, h4, h5, h6⟩ | ⟨h2, h3, h4, h5, h6⟩
    · have h2' : rowF st.S n ((z + 63) / 64).toNat = some p := h2
      obtain ⟨t1, t2, t3, t4⟩ := take_run (t := t) hi hf h32 h2'
      obtain ⟨k1, k2, k3⟩ := run_k h32 hz.2.2.2
      right
      refine ⟨h4, h5, 64 * p, _, takeF n st (64 * p) false kd z t, h3, h6, rfl, ?_, ?_, ?_, tie_run hi hf h32 h2', t1⟩
      · unfold roomN; rw [if_pos h32]; omega
      · omega
      · rw [h2']
        simp only [Option.map_some]
        rw [if_neg (by omega)]
    · have h2' : rowF st.S n ((z + 63) / 64).toNat = none := h2
      left
      rw [h2']
      exact ⟨by omega, h3, h6, by rw [h4, h5]; rfl⟩
  · obtain ⟨c0, c7, cw⟩ := of_small hz.2.2.1 h32
    obtain ⟨c, hc⟩ : ∃ c : Nat, ofV z = c := ⟨(ofV z).toNat, by omega⟩
    rw [show (ofV z).toNat = c from by omega] at h
    have hroom : roomN z = wN (c : Int) := by unfold roomN; rw [if_neg (by omega), hc]
    have hw := wN_pos (c := (c : Int)) (by omega) (by omega)
    have hFc : (rawOf n st).F c = fr n st (ofV z) := by rw [hc]; rfl
    have hpl : placeF n st z = if 0 ≤ nf n st (ofV z) 0 then some ((nf n st (ofV z) 0).toNat, false) else (rowF st.S n 1).map fun p => (64 * p, true) := by unfold placeF; rw [if_neg (by omega)]
    rw [hpl]
    have hnf : nf n st (ofV z) 0 = nxr ((rawOf n st).F c) (64 * n) 0 := by rw [hFc]; rfl
    rcases h with ⟨h1, p, h2, h3, h4, h5, h6⟩ | ⟨h1, h2, h3, h4, h5, h6⟩ | ⟨a, h1, h2, h3, h4, h5, h6, h7, h8⟩ | ⟨a, h1, h2, h3, h4, h5, h6, h7, h8⟩
    · have h2' : rowF st.S n 1 = some p := h2
      obtain ⟨t1, t2, t3, t4, t5⟩ := take_fresh (t := t) hi hf h32 h2'
      right
      refine ⟨h4, h5, 64 * p, _, takeF n st (64 * p) true kd z t, h3, h6, rfl, by omega, by omega, ?_, tie_fresh hi hf h32 h2' hc (by omega), t1⟩
      rw [hnf, h1, if_neg (by omega), h2']
      simp only [Option.map_some]
      rw [if_neg (by simp)]
    · have h2' : rowF st.S n 1 = none := h2
      left
      refine ⟨by omega, h3, h6, ?_⟩
      rw [hnf, h1, if_neg (by omega), h2', h4, h5]
      rfl
    · rw [hFc] at h3
      obtain ⟨t1, t2, t3⟩ := take_block (t := t) hi hf h32 h3
      have hst := (fr_iff.1 h3).2.2.1
      unfold startB at hst
      rw [hc] at hst
      simp at hst
      right
      refine ⟨h6, h7, a, _, takeF n st a false kd z t, h5, h8, rfl, by omega, h2, ?_, tie_block hi hf h32 h3 hc, t1⟩
      rw [hnf, h1, if_pos (by omega)]
      simp only [Int.toNat_natCast]
      rw [if_neg]
      rintro ⟨_, _, hne⟩
      apply hne
      unfold nf
      rw [← hFc]
      exact h4
    · left
      refine ⟨by omega, h5, h8, ?_⟩
      rw [hnf, h1, if_pos (by omega)]
      simp only [Int.toNat_natCast]
      rw [if_pos, h6, h7]
      refine ⟨h32, by simp, ?_⟩
      unfold nf
      rw [← hFc]
      exact h4
section
variable {w : World} {lo hi n cap : Nat} {s : Nat → Nat} {st : Sp}
set_option maxRecDepth 100000 in
set_option maxHeartbeats 2000000 in
theorem alloc_any (h : SpAt w lo hi s n cap st) (k z t : Int) (z1 : -9223372036854775808 ≤ z) (z2 : z ≤ 9223372036854775807) (hl : st.last < 4611686018427387904) :
    Calls Tryd.prog 20 #[.pointer (some ⟨s 14, 0, none⟩), .int .i64 k, .int .i64 z, .int .i64 t] w fun e w' =>
      e = .returned (.tuple #[.int .i64 (alF n st k z t).1, .agg #[.int .i64 (alF n st k z t).2.1, .int .i64 (alF n st k z t).2.2.1]]) ∧ SpAt w' lo hi s n cap (alF n st k z t).2.2.2 ∧ Out lo hi w w' := by
  obtain ⟨hr, hi'⟩ := h
  have h0 : Out 0 0 w (w.alloc (.cells #[.int .i64 0, .int .i64 0] 57)) := (Out.refl 0 0 w).alloc _
  have HZ := hid_mk (fz_new w)
  have H0 := hid_mk h0
  have HQ := hid_mk (hr.quiet h0)
  have HT : Hid (hi ≤ w.heap.size ∧ 4 ≤ w.heap.size ∧ n ≤ 4096) := ⟨hr.top, hr.tab.lt, hr.n2⟩
  have HF := hid_mk (fun w' (hT : Tab w') => fits_any k z hT z1 z2)
  have HI := hid_mk hi'
  have HQ2 := hid_mk (hr.quiet ((Out.refl 0 0 w).alloc (.cells #[.int .i64 24, .int .i64 0] 57)))
  have HL := hid_mk (And.intro hl hi'.last0)
  cases hf : fitsB k z with
  | false =>
    have ha : alF n st k z t = (0, 24, 0, st) := by unfold alF; rw [hf]; rfl
    rw [hf] at HF
    rw [ha]
    clear hr h0 hf ha hi' hl z1 z2
    go_enter Tryd.func20, Tryd.ntmps20
    go_wp2_with (first
      | (go_at_call 38; refine calls_same (HF.out _ HQ.out.tab) ?_))
    refine retIF Tryd.results20 rfl rfl rfl (heap_alloc_new _ _) ⟨rfl, ⟨HQ2.out, HI.out⟩, (((Out.refl 0 0 w).alloc _).any lo hi)⟩
  | true =>
    rw [hf] at HF
    have hz := fits_size hf
    have HTk := hid_mk (take_any (hr.quiet h0) (z := z) hz.2.2.1 hz.2.2.2)
    have HFt := hid_mk hf
    clear hr h0 hf hi' hl z1 z2 hz
    go_enter Tryd.func20, Tryd.ntmps20
    go_wp2_with (first
      | (go_at_call 38; refine calls_same (HF.out _ HQ.out.tab) ?_)
      | (go_at_call 32; refine calls_same (self_any _ _) ?_))
    refine HTk.out.mono ?_
    rintro e w1 ⟨v, e1, e2, rfl, ht, ho⟩
    have HO1 := hid_mk (ho.alloc (.cells #[.int .i64 e1, .int .i64 e2] 57))
    obtain ⟨q4, q5, q6, q7⟩ := flt_facts (HO1.out.heap HZ.out (.inr HT.out.1))
    rcases tkS_cases (t := t) HI.out HFt.out ht with ⟨hne, rfl, hr1, hal⟩ | ⟨rfl, rfl, a, r1, st', rfl, hr1, hl1, ha1, ha2, hal, htie, hinv⟩
    · have HAL := hid_mk hal
      have hb : (e1 != 0) = true := by simp [hne]
      have HR1 := hid_mk (hr1.quiet ((Out.refl 0 0 w1).alloc (.cells #[.int .i64 e1, .int .i64 e2] 57)))
      have qa := flt_facts (heap_alloc_new w1 (.cells #[.int .i64 e1, .int .i64 e2] 57))
      obtain ⟨t4, t5, t6, t7⟩ := qa
      have n1 : w1.heap.size ≠ w.heap.size := by have := ho.size; simp at this; omega
      have n2 := Ne.symm n1
      clear ht ho hr1 hal hne HTk
      go_wp2_with fail
      go_region_with fail
      all_goals (try go_wp2)
      all_goals
        refine retIF Tryd.results20 rfl rfl rfl (flt_set (HO1.out.heap HZ.out (.inr HT.out.1))) ?_
        rw [HAL.out]
        exact ⟨rfl, ⟨(HR1.out.kept ((Out.refl w.heap.size (w.heap.size + 1) _).set2 (.inl ⟨Nat.le_refl _, Nat.lt_succ_self _⟩) _ _) (.inl HT.out.1) (.inl HT.out.2.1)).quiet ((Out.refl 0 0 _).drew), HI.out⟩, (((H0.out.any lo hi).trans HO1.out).set2 (.inr (Nat.le_refl _)) _ _).drew⟩
    · have HAL := hid_mk hal
      have HR1 := hid_mk (hr1.quiet ((Out.refl 0 0 w1).alloc (.cells #[.int .i64 0, .int .i64 0] 57)))
      have HN : Hid (Calls Tryd.prog 41 #[.pointer (some ⟨s 14, 0, none⟩), .int .i64 k] (w1.alloc (.cells #[.int .i64 0, .int .i64 0] 57)) fun e w' => e = .returned (.int .i64 (serOf st k)) ∧ RawAt w' lo hi s n cap (numR r1 st k) ∧ Out lo hi (w1.alloc (.cells #[.int .i64 0, .int .i64 0] 57)) w') := by
        have := number_any HR1.out k (by rw [hl1]; exact HL.out.1) (by rw [hl1]; exact HL.out.2)
        rw [hl1] at this
        exact this
      have HTie := hid_mk htie
      have HInv := hid_mk hinv
      have HA := hid_mk (And.intro ha1 ha2)
      have hz := fits_size HFt.out
      have HE := hid_mk (fun w' (h' : RawAt w' lo hi s n cap (numR r1 st k)) => enter_any h' (a := a) (k := k) (z := z) (x := serOf st k) (t := t) hz.2.2.1 hz.2.2.2 ha1 ha2)
      clear ht ho hr1 hal htie hinv hl1 ha1 ha2 hz HTk
      go_wp2_with (first
        | (go_at_call 41; refine HN.out.mono ?_; rintro e w2 ⟨rfl, hr, ho⟩; have HR2 := hid_mk hr; have HO2 := hid_mk (HO1.out.trans ho); clear hr ho)
        | (go_at_call 40; refine (HE.out _ HR2.out).mono ?_; rintro e w3 ⟨⟨v3, rfl⟩, hr, ho⟩; have HR3 := hid_mk hr; have HO3 := hid_mk (HO2.out.trans ho); obtain ⟨s4, s5, s6, s7⟩ := flt_facts ((HO2.out.trans ho).heap HZ.out (.inr HT.out.1)); clear hr ho))
      refine retIF Tryd.results20 rfl rfl rfl (flt_set (HO3.out.heap HZ.out (.inr HT.out.1))) ?_
      rw [HAL.out]
      have h3 := HR3.out
      rw [HTie.out] at h3
      exact ⟨rfl, ⟨h3.kept ((Out.refl w.heap.size (w.heap.size + 1) _).set2 (.inl ⟨Nat.le_refl _, Nat.lt_succ_self _⟩) _ _) (.inl HT.out.1) (.inl HT.out.2.1), HInv.out⟩, ((H0.out.any lo hi).trans HO3.out).set2 (.inr (Nat.le_refl _)) _ _⟩
end
end Go.Proofs.YtjbbkeoolodeaabDoor
