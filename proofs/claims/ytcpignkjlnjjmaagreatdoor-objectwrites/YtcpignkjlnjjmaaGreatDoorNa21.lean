import Derived.Test.YtcpignkjlnjjmaaGreatDoorNa20
import Derived.Test.YtcpignkjlnjjmaaGreatDoorNa12
namespace Go.Proofs.YtcpignkjlnjjmaaGreatDoor
open Go.RowKit
attribute [local go_sem] Oper.semAt_some
set_option linter.unusedVariables false
set_option linter.unusedSimpArgs false

def linkR (n : Nat) (r : Raw) (c : Nat) : Nat → Int := fun i => if r.F c i then linkV (nxr (r.F c) (64 * n) (i + 1)) else r.W i
/-- those below p are written -/
def lwR (n : Nat) (r : Raw) (c p : Nat) : Nat → Int := fun i => if r.F c i = true ∧ i < p then linkV (nxr (r.F c) (64 * n) (i + 1)) else r.W i
theorem lw_zero (n : Nat) (r : Raw) (c : Nat) : lwR n r c 0 = r.W := by funext i; unfold lwR; rw [if_neg (by omega)]
theorem lw_skip {n : Nat} {r : Raw} {c p q : Nat} (h : p ≤ q) (hz : ∀ j, p ≤ j → j < q → r.F c j = false) : lwR n r c p = lwR n r c q := by
  funext i
  unfold lwR
  by_cases e : r.F c i = true ∧ i < q
  · have : i < p := by
      by_cases e2 : i < p
      · exact e2
      · have := hz i (by omega) e.2
        rw [e.1] at this; cases this
    rw [if_pos ⟨e.1, this⟩, if_pos e]
  · rw [if_neg e, if_neg (fun h' => e ⟨h'.1, by omega⟩)]
theorem lw_step {n : Nat} {r : Raw} {c a : Nat} (h : r.F c a = true) : updW (lwR n r c a) a (linkV (nxr (r.F c) (64 * n) (a + 1))) = lwR n r c (a + 1) := by
  funext i
  unfold updW lwR
  by_cases e : i = a
  · subst e; rw [if_pos rfl, if_pos ⟨h, Nat.lt_succ_self _⟩]
  · rw [if_neg e]
    by_cases e2 : r.F c i = true ∧ i < a
    · rw [if_pos e2, if_pos ⟨e2.1, by omega⟩]
    · rw [if_neg e2, if_neg (fun h' => e2 ⟨h'.1, by omega⟩)]
theorem lw_end {n : Nat} {r : Raw} {c : Nat} (hz : ∀ j, 64 * n ≤ j → r.F c j = false) : lwR n r c (64 * n) = linkR n r c := by
  funext i
  unfold lwR linkR
  cases e : r.F c i with
  | false => simp
  | true =>
    have : i < 64 * n := by
      by_cases e2 : i < 64 * n
      · exact e2
      · rw [hz i (by omega)] at e; cases e
    simp [this]
theorem link_at (v : Int) (w : World) : Calls Tryz.prog 100 #[.int .i64 v] w fun e w' => e = .returned (.int .i64 (linkV v)) ∧ w' = w := link_any v w
set_option maxRecDepth 100000 in
set_option maxHeartbeats 4000000 in
theorem spLink_any {w : World} {lo hi n cap : Nat} {s : Nat → Nat} {r : Raw} (h : RawAt w lo hi s n cap r) {c : Nat} (hc : c < 8) :
    Calls Tryz.prog 111 #[.pointer (some ⟨s 14, 0, none⟩), .int .i64 (c : Int)] w fun e w' => (∃ v, e = .returned v) ∧ RawAt w' lo hi s n cap { r with W := linkR n r c } ∧ Out lo hi w w' := by
  have HR0 := hid_mk h
  have HC := hid_mk hc
  have HZ := hid_mk (h.free c hc).bounds
  have h11 : s 11 < hi := by have := (h.inn 11 (by omega)).2; simp [ln] at this; omega
  have h14 : s 14 < hi ∧ s 11 ≠ s 14 := by have a := (h.inn 14 (by omega)).2; have b := h.apart 11 14 (by omega) (by omega) (by omega); simp [ln] at a b; omega
  have HT : Hid (hi ≤ w.heap.size ∧ 4 ≤ w.heap.size ∧ s 11 < hi ∧ s 14 < hi ∧ s 11 ≠ s 14 ∧ 4 ≤ lo ∧ n ≤ 4096) := ⟨h.top, h.tab.lt, h11, h14.1, h14.2, h.glob, h.n2⟩
  have HL := hid_mk (fun w => links_any (s 14) (c : Int) w)
  clear h hc h11 h14
  refine (callsIn_wide (n := 0)).1 ?_
  refine callsIn_of_wp_marks Tryz.func111 rfl trivial ?_ rfl
  simp only [Tryz.ntmps111, List.size_toArray, List.length_cons, List.length_nil, Nat.reduceAdd, Nat.reduceSub, Array.replicate_succ, Array.replicate_zero, List.push_toArray, List.append_toArray, List.nil_append, List.cons_append]
  gi_wp2_with (refine ⟨trivial, rfl, ?_⟩; gi_at_call 116; refine (callsIn_wide.2 (HL.out _)).mono ?_; rintro e w1 ⟨rfl, rfl⟩)
  obtain ⟨W1, hW1⟩ : ∃ W1, ((w.alloc (.cells #[.pointer (some ⟨s 14, 0, none⟩)] 49)).alloc (.cells #[.pointer (some ⟨s 14, 0, none⟩)] 49)).alloc (.cells #[.int .i64 (c : Int)] 3) = W1 := ⟨_, rfl⟩
  have hs1 : W1.heap.size = w.heap.size + 3 := by rw [← hW1]; simp
  have ho1 : Out 0 0 w W1 := by rw [← hW1]; exact ((((Out.refl 0 0 w).alloc _).alloc _).alloc _)
  have hy1 : Box W1 w.heap.size 49 (.pointer (some ⟨s 14, 0, none⟩)) := by rw [← hW1]; exact Box.alloc (w := (w.alloc (.cells #[.pointer (some ⟨s 14, 0, none⟩)] 49)).alloc (.cells #[.pointer (some ⟨s 14, 0, none⟩)] 49)) two_first _
  have hx1 : Box W1 (w.heap.size + 1) 49 (.pointer (some ⟨s 14, 0, none⟩)) := by rw [← hW1]; exact Box.alloc (w := (w.alloc (.cells #[.pointer (some ⟨s 14, 0, none⟩)] 49)).alloc (.cells #[.pointer (some ⟨s 14, 0, none⟩)] 49)) (heap_alloc2_new _ _ _) _
  have hz1 : Box W1 (w.heap.size + 1 + 1) 3 (.int .i64 (c : Int)) := by
    rw [← hW1]
    have := heap_alloc_new ((w.alloc (.cells #[.pointer (some ⟨s 14, 0, none⟩)] 49)).alloc (.cells #[.pointer (some ⟨s 14, 0, none⟩)] 49)) (.cells #[.int .i64 (c : Int)] 3)
    rw [World.size_alloc, World.size_alloc] at this
    exact this
  rw [hW1]
  clear hW1
  have HO1 := hid_mk ho1
  have HY1 := hid_mk hy1
  have HX1 := hid_mk hx1
  have HZ1 := hid_mk hz1
  clear ho1 hy1 hx1 hz1
  refine range_any (gf := 117) (lb := #[.pointer (some ⟨w.heap.size + 1, 0, none⟩), .pointer (some ⟨w.heap.size + 1 + 1, 0, none⟩)]) rfl (enters_of Tryz.func117 (by kernel_rfl) rfl)
    (fun W => RawAt W lo hi s n cap { r with W := lwR n r c (64 * n) } ∧ Out lo hi w W) (fun c W => False) ?H ?done ?stop
  case H =>
    intro rec hrec W2 hW2
    rw [hs1]
    have HR := hid_mk hrec
    have ho2 : Out 0 0 W1 W2 := by rw [hW2]; exact ((Out.refl 0 0 W1).alloc _).alloc _
    have hs2 : W2.heap.size = w.heap.size + 5 := by rw [hW2]; simp [hs1]
    have hd2 : W2.heap[w.heap.size + 3]? = some (.deferred (some [])) := by rw [hW2, ← hs1]; exact two_first
    have hl2 : W2.heap[w.heap.size + 3 + 1]? = some (.loop (rec .ready none)) := by rw [hW2, ← hs1]; exact heap_alloc2_new _ _ _
    refine (links_yield (lo := lo) (hi := hi) (n := n) (cap := cap) (s := s) (S := r.F c) (c := c) (g := w.heap.size + 1) (gc := w.heap.size + 1 + 1) (l := w.heap.size + 3 + 1) HC.out
      (fun p W => RawAt W lo hi s n cap { r with W := lwR n r c p } ∧ Box W w.heap.size 49 (.pointer (some ⟨s 14, 0, none⟩)) ∧ Box W (w.heap.size + 1) 49 (.pointer (some ⟨s 14, 0, none⟩)) ∧ Box W (w.heap.size + 1 + 1) 3 (.int .i64 (c : Int)) ∧ W.heap[w.heap.size + 3]? = some (.deferred (some [])) ∧ W.heap[w.heap.size + 3 + 1]? = some (.loop (rec .ready none)) ∧ Out lo hi w W)
      (fun W => RawAt W lo hi s n cap { r with W := lwR n r c (64 * n) } ∧ W.heap[w.heap.size + 3]? = some (.deferred (some [])) ∧ W.heap[w.heap.size + 3 + 1]? = some (.loop (rec .ready none)) ∧ Out lo hi w W)
      (fun W => False) (w := W2) ?hm1 ?hq1 ?hs1 ?hqj1 ?hqx1 ?hy1 ?he1 ?hz1).mono ?_
    case hm1 =>
      rintro p W ⟨a1, a2, a3, a4, a5, a6, a7⟩
      exact ⟨_, a1, rfl, a3, a4⟩
    case hq1 =>
      rintro p W W' x y ⟨a1, a2, a3, a4, a5, a6, a7⟩ o hx
      exact ⟨a1.kept o (by have := HT.out; omega) (by have := HT.out; omega), a2.kept o (by omega), a3.kept o (by omega), a4.kept o (by omega), o.heap a5 (by omega), o.heap a6 (by omega), out_far a7 o (by omega)⟩
    case hs1 =>
      rintro p q W ⟨a1, a2, a3, a4, a5, a6, a7⟩ hpq hz
      exact ⟨by rw [← lw_skip hpq hz]; exact a1, a2, a3, a4, a5, a6, a7⟩
    case hqj1 =>
      rintro W W' x y ⟨a1, a2, a3, a4⟩ o hx
      exact ⟨a1.kept o (by have := HT.out; omega) (by have := HT.out; omega), o.heap a2 (by omega), o.heap a3 (by omega), out_far a4 o (by omega)⟩
    case hqx1 =>
      rintro W W' x y h _ _
      exact h
    case he1 =>
      rintro p W ⟨a1, a2, a3, a4, a5, a6, a7⟩ hz
      refine ⟨?_, a5, a6, a7⟩
      by_cases e : p ≤ 64 * n
      · rw [← lw_skip e hz]; exact a1
      · rw [lw_skip (p := 64 * n) (q := p) (by omega) (fun j j1 _ => HZ.out.2.2.2.2.2 j j1)]; exact a1
    case hz1 =>
      have := (HR0.out.quiet (HO1.out.trans ho2))
      exact ⟨by rw [lw_zero]; exact this, HY1.out.kept ho2 (.inr (Nat.zero_le _)), HX1.out.kept ho2 (.inr (Nat.zero_le _)), HZ1.out.kept ho2 (.inr (Nat.zero_le _)), hd2, hl2, (HO1.out.trans ho2).any _ _⟩
    case hy1 =>
      rintro a W ⟨a1, a2, a3, a4, a5, a6, a7⟩ hSa haN
      have A := hid_mk (And.intro a1 (And.intro a2 (And.intro a3 (And.intro a4 (And.intro a5 a7)))))
      have HSa := hid_mk hSa
      have HaN := hid_mk haN
      have HL5 := hid_mk a6
      have k0 : (0 : Int) ≤ (a : Int) := by omega
      have k1 : (a : Int) < ((64 * n : Nat) : Int) := by omega
      have k2 : ((64 * n : Nat) : Int) ≤ 262144 := by have := HT.out; omega
      have k3 : (a : Int) < 64 * (n : Int) := by omega
      refine round_any HR.out a6 rfl ?_
      clear a1 a2 a3 a4 a5 a6 a7 hSa haN
      gi_wp2
      refine ⟨HL5.out, ?_⟩
      intro W3 ho3 hl3
      have HO3 := hid_mk ho3
      have HL3 := hid_mk hl3
      have c0 := (A.out.2.1.kept ho3 (.inl (by omega))).cell
      have hr3 := A.out.1.kept ho3 (.inl (by have := HT.out; omega)) (.inl (by have := HT.out; omega))
      have c1 := hr3.cells.1
      have d0 := hr3.words.cell HaN.out
      have d1 := hr3.words.frozen a
      have HR3 := hid_mk hr3
      have ho9 : ∀ v, Out (s 11) (s 11 + 1) W3.drew (W3.drew.setCell ⟨s 11, a, none⟩ v) := fun v => (Out.refl _ _ _).setCell (.inl ⟨Nat.le_refl _, Nat.lt_succ_self _⟩) _
      have n1 : s 14 < s 11 ∨ s 11 + 1 ≤ s 14 := by have := HT.out; omega
      have n2 : w.heap.size < s 11 ∨ s 11 + 1 ≤ w.heap.size := by have := HT.out; omega
      clear ho3 hl3 hr3
      gi_wp2_with fail
      refine region_roundN (S := fun w' => w'.cell? ⟨w.heap.size, 0, none⟩ = some (.pointer (some ⟨s 14, 0, none⟩)) ∧ w'.cell? ⟨s 14, 0, none⟩ = some (.slice (some ⟨s 11, 0, none⟩) (64 * n) cap)) (by kernel_rfl) (by kernel_rfl) ?hS1 (fun hHeld => ?rest1)
      case hS1 => exact ⟨c0, c1⟩
      refine tk 0 ?_
      refine tk 1 ?_
      refine tk 2 ?_
      refine tk 3 ?_
      refine tk 4 ?_
      refine tk 5 ?_
      refine wpAnyH_ready (rs := [6]) (by kernel_rfl) (by simp) ?_
      refine AllReadyH.cons rfl (fun KK hK => ?_) AllReadyH.nil
      simp only [xa, xb, xc]
      go_simp
      refine (link_at (nxr (r.F c) (64 * n) (a + 1)) _).mono ?_
      rintro e w5 ⟨rfl, rfl⟩
      refine hK.out _ _ ?hS8 (fun hHeld2 => ?rest8)
      case hS8 => exact hHeld
      clear hK KK
      (try clear hHeld)
      have hHeld := hHeld2
      clear hHeld2
      (try simp only [Act.put, xa, xb, xc, xd, xe, xf])
      refine tk 7 ?_
      refine wpAnyH_ready (rs := [8]) (by kernel_rfl) (by simp) ?_
      refine AllReadyH.cons rfl (fun KK hK => ?_) AllReadyH.nil
      simp only [xa, xb, xc]
      go_simp
      refine hK.out _ _ ?hS10 (fun hHeld2 => ?rest10)
      case hS10 => exact ⟨(ho9 _).cell hHeld.1 (by omega), (ho9 _).cell hHeld.2 (by omega)⟩
      clear hK KK
      (try clear hHeld)
      have hHeld := hHeld2
      clear hHeld2
      (try simp only [Act.put, xa, xb, xc, xd, xe, xf])
      refine wpAnyH_done (by kernel_rfl) ?_ _
      clear hHeld
      simp only [noOut, onlyN]
      gi_wp2
      have hp := HR3.out.poke a (linkV (nxr (r.F c) (64 * n) (a + 1)))
      have ho5 := hp.2.drew
      refine ⟨ho5.heap HL3.out (.inr (by have := HT.out; omega)), ?_⟩
      intro W5 ho6 hl6
      have hr5 : RawAt W5 lo hi s n cap { r with W := lwR n r c (a + 1) } := by
        rw [← lw_step HSa.out]
        exact (hp.1.quiet ((Out.refl 0 0 _).drew)).kept ho6 (by have := HT.out; omega) (by have := HT.out; omega)
      have hA := A.out
      have hT := HT.out
      have ho7 := HO3.out
      exact ⟨⟨(ho6.1.trans ho5.1).trans ho7.1, (ho6.2.1.trans ho5.2.1).trans ho7.2.1, (ho6.2.2.1.trans ho5.2.2.1).trans ho7.2.2.1, Nat.le_trans ho7.size (Nat.le_trans ho5.size ho6.size), fun k h1 h2 => ((ho6.block (Nat.lt_of_lt_of_le (Nat.lt_of_lt_of_le h1 ho7.size) ho5.size) (by omega)).trans (ho5.block (Nat.lt_of_lt_of_le h1 ho7.size) (by omega))).trans (ho7.block h1 (by omega))⟩, .inl ⟨rfl, hr5, ((hA.2.1.kept ho7 (by omega)).kept ho5 (by omega)).kept ho6 (by omega), ((hA.2.2.1.kept ho7 (by omega)).kept ho5 (by omega)).kept ho6 (by omega), ((hA.2.2.2.1.kept ho7 (by omega)).kept ho5 (by omega)).kept ho6 (by omega), ho6.heap (ho5.heap (ho7.heap hA.2.2.2.2.1 (by omega)) (by omega)) (by omega), hl6, out_far ((out_far hA.2.2.2.2.2 ho7 (by omega)).trans (HR3.out.wide (i := 11) (by omega) ho5)) ho6 (by omega)⟩⟩

    · rintro e W ⟨hv, ⟨a1, a2, a3, a4⟩ | h⟩
      · exact ⟨hv, a2, .inl ⟨⟨a1, a4⟩, a3⟩⟩
      · exact h.elim
  case done =>
    rintro W W' ⟨a1, a2⟩ ho hd
    have HJ := hid_mk (And.intro (a1.kept ho (by have := HT.out; omega) (by have := HT.out; omega)) (out_far a2 ho (by omega)))
    have HD := hid_mk hd
    clear a1 a2 ho hd
    gi_wp2
    refine ⟨by simp, .inl ⟨_, _, rfl, run_takeDeferred HD.out, ?_⟩⟩
    refine ⟨_, results_none rfl _ _ _, ⟨_, rfl⟩, ?_, out_far HJ.out.2 (out_putObj _ _ _) (by omega)⟩
    rw [← lw_end HZ.out.2.2.2.2.2]
    exact HJ.out.1.kept (out_putObj _ _ _) (by have := HT.out; omega) (by have := HT.out; omega)
  case stop =>
    rintro c W W' h ho hd
    exact h.elim
end Go.Proofs.YtcpignkjlnjjmaaGreatDoor
namespace Go.Proofs.YtcpignkjlnjjmaaGreatDoor
open Go.RowKit
set_option linter.unusedVariables false
set_option linter.unusedSimpArgs false

theorem elem_ints : Tryz.prog.elem 39 = 3 := by kernel_rfl
theorem size_int (w : World) : (sizeOf 3).run Tryz.prog w = .ok 1 w := by kernel_rfl
theorem islice_at (bw n cap lo hi : Nat) (h1 : lo ≤ hi) (h2 : hi ≤ cap) : ∃ o cp : Nat, (∀ wx, (Instr.slice 39 (.slice (some ⟨bw, 0, none⟩) n cap) (some (.int .i64 (lo : Int))) (some (.int .i64 (hi : Int))) none).run Tryz.prog wx = .ok (.slice (some ⟨bw, o, none⟩) (hi - lo) cp) wx) ∧ (0 < hi - lo → o = lo) := by
  by_cases e : cap = lo
  · refine ⟨0, cap - lo, fun wx => ?_, fun h => by omega⟩
    rw [run_slice_lh wx 39 _ n cap (by rw [elem_ints]; exact Tryz.underlying39) .i64 .i64 (lo : Int) (hi : Int) (by omega) (by omega) (by omega), elem_ints, size_int]
    simp [Result.andThen, sliced, e]
  · refine ⟨lo, cap - lo, fun wx => ?_, fun h => rfl⟩
    rw [run_slice_lh wx 39 _ n cap (by rw [elem_ints]; exact Tryz.underlying39) .i64 .i64 (lo : Int) (hi : Int) (by omega) (by omega) (by omega), elem_ints, size_int]
    have e2 : (⟨bw, 0, none⟩ : Addr).add lo = ⟨bw, lo, none⟩ := by rw [Addr.add_lit, Nat.zero_add]
    simp [Result.andThen, sliced, e, e2]
section
variable {w : World} {lo hi n cap : Nat} {s : Nat → Nat} {r : Raw}
theorem RawAt.clear (h : RawAt w lo hi s n cap r) {a k o cp : Nat} (hk : a + k ≤ 64 * n) (ho : 0 < k → o = a) :
    ∃ w', (∀ ty, (Builtin.clear_ #[39] ty #[.slice (some ⟨s 11, o, none⟩) k cp]).run Tryz.prog w = .ok (.tuple #[]) w') ∧ RawAt w' lo hi s n cap { r with W := zeroW r.W a k } ∧ Out (s 11) (s 11 + 1) w w' := by
  by_cases h0 : 0 < k
  · obtain rfl := ho h0
    have hO : Out (s 11) (s 11 + 1) w (w.setCells (s 11) o (List.replicate k (.int .i64 0))) := Out.setAll ⟨Nat.le_refl _, Nat.lt_succ_self _⟩ _ _ _ _ _ (Out.refl _ _ _)
    refine ⟨w.setCells (s 11) o (List.replicate k (.int .i64 0)), fun ty => Lib.run_clear_slice w 39 3 ty (.int .i64 0) Tryz.underlying39 zero_int rfl rfl (s 11) o k cp h0 (fun j hj => by rw [h.words.cell (i := o + j) (by omega)]; rfl) (fun j hj => h.words.frozen _), h.setW hO ((Row.fillAll _ _ _ _ _ h.words).congr fun i hi => ?_), hO⟩
    unfold zeroW
    by_cases e : o ≤ i ∧ i < o + k
    · rw [if_pos e, if_pos e]
    · rw [if_neg e, if_neg e]
  · obtain rfl : k = 0 := by omega
    refine ⟨w, fun ty => by simp [Builtin.clear_, run_underlying Tryz.underlying39], ?_, Out.refl _ _ _⟩
    have : zeroW r.W a 0 = r.W := by funext i; unfold zeroW; rw [if_neg (by omega)]
    rw [this]; exact h
/-- the blocks of the page that are among the first i -/
def fuF (r : Raw) (c p i : Nat) : Nat → Bool := fun j => r.F c j || (decide (j / 64 = p ∧ (j % 64) % wN (c : Int) = 0 ∧ (j % 64) / wN (c : Int) < i) && !r.P j)
def fuR (r : Raw) (c p : Nat) : Nat → Bool := fun j => r.F c j || (decide (j / 64 = p) && startB (c : Int) (j % 64) && !r.P j)
theorem class_nums {c : Nat} (hc : c < 8) : ∃ x y : Nat, wordsV (c : Int) = x ∧ wN (c : Int) = x ∧ blocksV (c : Int) = y ∧ ((c = 0 ∧ x = 2 ∧ y = 32) ∨ (c = 1 ∧ x = 4 ∧ y = 16) ∨ (c = 2 ∧ x = 6 ∧ y = 10) ∨ (c = 3 ∧ x = 8 ∧ y = 8) ∨ (c = 4 ∧ x = 12 ∧ y = 5) ∨ (c = 5 ∧ x = 16 ∧ y = 4) ∨ (c = 6 ∧ x = 20 ∧ y = 3) ∨ (c = 7 ∧ x = 32 ∧ y = 2)) := by
  have : c = 0 ∨ c = 1 ∨ c = 2 ∨ c = 3 ∨ c = 4 ∨ c = 5 ∨ c = 6 ∨ c = 7 := by omega
  rcases this with rfl | rfl | rfl | rfl | rfl | rfl | rfl | rfl
  · exact ⟨2, 32, rfl, rfl, rfl, by omega⟩
  · exact ⟨4, 16, rfl, rfl, rfl, by omega⟩
  · exact ⟨6, 10, rfl, rfl, rfl, by omega⟩
  · exact ⟨8, 8, rfl, rfl, rfl, by omega⟩
  · exact ⟨12, 5, rfl, rfl, rfl, by omega⟩
  · exact ⟨16, 4, rfl, rfl, rfl, by omega⟩
  · exact ⟨20, 3, rfl, rfl, rfl, by omega⟩
  · exact ⟨32, 2, rfl, rfl, rfl, by omega⟩
theorem start_iff {c : Nat} (hc : c < 8) {o : Nat} (ho : o < 64) : startB (c : Int) o = decide (o % wN (c : Int) = 0 ∧ o / wN (c : Int) < (blocksV (c : Int)).toNat) := by
  obtain ⟨x, y, h1, h2, h3, h4⟩ := class_nums hc
  unfold startB
  rw [h2, h3, Bool.eq_iff_iff]
  simp
  intro hm
  rcases h4 with ⟨_, rfl, rfl⟩ | ⟨_, rfl, rfl⟩ | ⟨_, rfl, rfl⟩ | ⟨_, rfl, rfl⟩ | ⟨_, rfl, rfl⟩ | ⟨_, rfl, rfl⟩ | ⟨_, rfl, rfl⟩ | ⟨_, rfl, rfl⟩ <;> omega
theorem fu_zero (r : Raw) (c p : Nat) : fuF r c p 0 = r.F c := by funext j; unfold fuF; simp
theorem fu_end (r : Raw) {c : Nat} (hc : c < 8) (p : Nat) : fuF r c p (blocksV (c : Int)).toNat = fuR r c p := by
  funext j
  unfold fuF fuR
  rw [start_iff hc (show j % 64 < 64 from by omega)]
  congr 2
  rw [Bool.eq_iff_iff]
  simp
/-- the next block -/
theorem fu_step (r : Raw) {c : Nat} (hc : c < 8) (p i : Nat) (hi : (i : Int) < blocksV (c : Int)) : ∃ a : Nat, 64 * p + i * wN (c : Int) = a ∧ a < 64 * p + 64 ∧ startV (c : Int) (i : Int) = ((i * wN (c : Int) : Nat) : Int) ∧
    fuF r c p (i + 1) = (fun j => if j = a then (fuF r c p i a || !r.P a) else fuF r c p i j) := by
  obtain ⟨x, y, h1, h2, h3, h4⟩ := class_nums hc
  have hix : i * x + x ≤ 64 ∧ 2 ≤ x := by
    rw [h3] at hi
    rcases h4 with ⟨_, rfl, rfl⟩ | ⟨_, rfl, rfl⟩ | ⟨_, rfl, rfl⟩ | ⟨_, rfl, rfl⟩ | ⟨_, rfl, rfl⟩ | ⟨_, rfl, rfl⟩ | ⟨_, rfl, rfl⟩ | ⟨_, rfl, rfl⟩ <;> omega
  refine ⟨64 * p + i * x, by rw [h2], by omega, ?_, ?_⟩
  · unfold startV
    rw [if_pos ⟨by omega, hi⟩, h1, h2]; simp
  · have hq : ∀ j : Nat, (j / 64 = p ∧ (j % 64) % x = 0 ∧ (j % 64) / x = i) ↔ j = 64 * p + i * x := by
      intro j
      have hd := Nat.div_add_mod (j % 64) x
      constructor
      · rintro ⟨e1, e2, e3⟩
        rw [e3, e2, Nat.add_zero, Nat.mul_comm x i] at hd
        clear e2 e3
        generalize i * x = t at *
        omega
      · intro e
        have e4 : j % 64 = i * x := by omega
        refine ⟨by omega, by rw [e4]; exact Nat.mul_mod_left _ _, by rw [e4]; exact Nat.mul_div_cancel _ (by omega)⟩
    funext j
    unfold fuF
    rw [h2]
    by_cases e : j = 64 * p + i * x
    · rw [if_pos e, ← e]
      have := (hq j).2 e
      have e5 : decide (j / 64 = p ∧ (j % 64) % x = 0 ∧ (j % 64) / x < i + 1) = true := by simp; omega
      have e6 : decide (j / 64 = p ∧ (j % 64) % x = 0 ∧ (j % 64) / x < i) = false := by simp; omega
      rw [e5, e6]
      cases r.F c j <;> cases r.P j <;> rfl
    · rw [if_neg e]
      have e5 : decide (j / 64 = p ∧ (j % 64) % x = 0 ∧ (j % 64) / x < i + 1) = decide (j / 64 = p ∧ (j % 64) % x = 0 ∧ (j % 64) / x < i) := by
        rw [Bool.eq_iff_iff]
        simp
        intro e1 e2
        have : ¬ ((j % 64) / x = i) := fun e3 => e ((hq j).1 ⟨e1, e2, e3⟩)
        omega
      rw [e5]
set_option maxRecDepth 100000 in
set_option maxHeartbeats 2000000 in
theorem freeUp_any (h : RawAt w lo hi s n cap r) {c p : Nat} (hc : c < 8) (hp : p < n) :
    Calls Tryz.prog 110 #[.pointer (some ⟨s 14, 0, none⟩), .int .i64 (p : Int), .int .i64 (c : Int)] w fun e w' => (∃ v, e = .returned v) ∧ RawAt w' lo hi s n cap { r with F := fun d => if d = c then fuR r c p else r.F d } ∧ Out lo hi w w' := by
  have HC := hid_mk hc
  have HP := hid_mk hp
  have HR := hid_mk h
  have HN : Hid (n ≤ 4096) := h.n2
  have HB := hid_mk (calls_out (blocks_any (c : Int) w) (Out.refl 0 0 w))
  obtain ⟨y, hy⟩ : ∃ y : Nat, blocksV (c : Int) = y := by obtain ⟨x, y, h1, h2, h3, h4⟩ := class_nums hc; exact ⟨y, h3⟩
  rw [hy] at HB
  have k0 : (0 : Int) ≤ (p : Int) := by omega
  have k1 : (p : Int) < 4096 := by have := h.n2; omega
  have k2 : (0 : Int) ≤ (c : Int) := by omega
  have k3 : (c : Int) < 8 := by omega
  have k4 : (y : Int) ≤ 32 := by obtain ⟨x, y', h1, h2, h3, h4⟩ := class_nums hc; omega
  have HY := hid_mk hy
  clear h hc hp hy
  go_enter Tryz.func110, Tryz.ntmps110
  go_wp2_with (first | (go_at_call 113; refine HB.out.mono ?_; rintro e w1 ⟨rfl, ho⟩))
  have HR1 := hid_mk (HR.out.quiet ho)
  have HO1 := hid_mk ho
  clear ho
  go_loopw [10] (fun u wr => ∃ i : Nat, u = .int .i64 (i : Int) ∧ i ≤ y ∧ RawAt wr lo hi s n cap { r with F := fun d => if d = c then fuF r c p i else r.F d } ∧ Out lo hi w wr) (fun u _ => ((y : Int) - intOf u).toNat)
  case atStart =>
    refine ⟨0, rfl, Nat.zero_le _, HR1.out.congr ?_, HO1.out.any _ _⟩
    refine Raw.eq rfl rfl ?_ rfl rfl rfl rfl
    funext d
    show r.F d = if d = c then fuF r c p 0 else r.F d
    by_cases e : d = c
    · rw [if_pos e, fu_zero, e]
    · rw [if_neg e]
  case round =>
    clear HR1 HO1 HB HR
    obtain ⟨i, rfl, i1, i2, i3⟩ := hrel
    have HR2 := hid_mk i2
    have HO2 := hid_mk i3
    by_cases hlt : (i : Int) < (y : Int)
    · obtain ⟨a, e1, e2, e3, e4⟩ := fu_step r HC.out p i (by rw [HY.out]; exact hlt)
      have j0 : (0 : Int) ≤ (i : Int) := by omega
      have HS := hid_mk (calls_out (start_any (c : Int) (i : Int) wr) (Out.refl 0 0 wr))
      rw [e3] at HS
      obtain ⟨q, hq⟩ : ∃ q : Nat, i * wN (c : Int) = q := ⟨_, rfl⟩
      rw [hq] at HS e1
      have m0 : (0 : Int) ≤ (q : Int) := by omega
      have m1 : (q : Int) < 64 := by omega
      have m2 : (p : Int) * 64 + (q : Int) = (a : Int) := by omega
      have HA : Hid (a < 64 * n) := by show _ < _; have := HP.out; omega
      have HE4 := hid_mk e4
      have HM2 := hid_mk m2
      clear i2 i3 e1 e2 e3 e4 hq m2
      go_wp2_with (first
        | (go_at_call 114; refine HS.out.mono ?_; rintro e w2 ⟨rfl, ho⟩; have HR3 := hid_mk (HR2.out.quiet ho); have HO3 := hid_mk (HO2.out.trans (ho.any lo hi)); obtain ⟨d0, d1, d2, d3, d4, d5⟩ := HR3.out.cells; have dF := HR3.out.cellF HC.out; clear ho HR2 HO2)
        | (go_at_call 115; rw [HM2.out]; refine (get_any HR3.out.places (a : Int)).mono ?_; rintro e w3 ⟨rfl, ho⟩; have HR4 := hid_mk (HR3.out.quiet ho); have HO4 := hid_mk (HO3.out.trans (ho.any lo hi)); have eF := HR4.out.cellF HC.out; clear ho dF d0 d1 d2 d3 d4 d5; obtain ⟨bb, hbb⟩ : ∃ bb, getB r.P (64 * n) (a : Int) = bb := ⟨_, rfl⟩; simp only [hbb])
        | (go_at_call 92; refine (set_any (HR4.out.free c HC.out) (a : Int)).mono ?_; rintro e w4 ⟨rfl, hm, ho⟩; have HR5 := hid_mk (HR4.out.setF HC.out ho hm); have HO5 := hid_mk (HO4.out.trans (HR4.out.wide (i := c) (by have := HC.out; omega) (by unfold ln; rw [if_pos (by have := HC.out; omega)]; exact ho))); clear hm ho))
      · have hP : r.P a = false := by
          have h1 : getB r.P (64 * n) (a : Int) = false := by rw [hbb]; rename_i hq; simpa using hq
          unfold getB at h1
          rw [show inB (64 * n) (a : Int) = true from by unfold inB; simp; have := HA.out; omega] at h1
          simpa using h1
        refine ⟨⟨i + 1, by congr 1, by omega, HR5.out.congr ?_, HO5.out⟩, by simp [intOf]; omega⟩
        refine Raw.eq rfl rfl ?_ rfl rfl rfl rfl
        funext d
        simp only [if_true]
        by_cases e : d = c
        · rw [if_pos e, if_pos e, HE4.out]
          funext j
          unfold setS
          rw [if_pos (show inB (64 * n) (a : Int) = true from by unfold inB; simp; have := HA.out; omega)]
          unfold upd
          rw [show (a : Int).toNat = a from by omega, hP]
          by_cases e2 : j = a
          · rw [if_pos e2, if_pos e2]; simp
          · rw [if_neg e2, if_neg e2]
        · rw [if_neg e, if_neg e, if_neg e]
      · have hP : r.P a = true := by
          have h1 : getB r.P (64 * n) (a : Int) = true := by rw [hbb]; rename_i hq; simpa using hq
          unfold getB at h1
          simp at h1
          exact h1.2
        refine ⟨⟨i + 1, by congr 1, by omega, HR4.out.congr ?_, HO4.out⟩, by simp [intOf]; omega⟩
        refine Raw.eq rfl rfl ?_ rfl rfl rfl rfl
        funext d
        show (if d = c then fuF r c p i else r.F d) = if d = c then fuF r c p (i + 1) else r.F d
        by_cases e : d = c
        · rw [if_pos e, if_pos e, HE4.out]
          funext j
          by_cases e2 : j = a
          · rw [if_pos e2, hP, e2]; simp
          · rw [if_neg e2]
        · rw [if_neg e, if_neg e]
    · have e : i = y := by omega
      subst e
      clear i2 i3
      have hge : (i : Int) ≤ (i : Int) := Int.le_refl _
      go_wp2
      refine bodyPost_end (results_none Tryz.results110 _ _ _) rfl ⟨⟨_, rfl⟩, HR2.out.congr ?_, HO2.out⟩
      refine Raw.eq rfl rfl ?_ rfl rfl rfl rfl
      funext d
      show (if d = c then fuF r c p i else r.F d) = if d = c then fuR r c p else r.F d
      rw [← fu_end r HC.out p, HY.out]; rfl
end
end Go.Proofs.YtcpignkjlnjjmaaGreatDoor
