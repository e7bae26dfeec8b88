import Derived.Test.YtjbbkeoolodeaaaGreatDoorG32
import Derived.Test.YtjbbkeoolodeaaaGreatDoorG10
import Derived.Test.YtjbbkeoolodeaaaGreatDoorG14
import Derived.Test.YtjbbkeoolodeaaaGreatDoorG23
import Derived.Test.YtjbbkeoolodeaaaGreatDoorG31
import Derived.Test.YtjbbkeoolodeaaaGreatDoorG19
import Derived.Test.YtjbbkeoolodeaaaGreatDoorG21
namespace Go.Proofs.YtjbbkeoolodeaaaGreatDoor
open Go.RowKit
attribute [local go_sem] Oper.semAt_some
set_option linter.unusedVariables false
set_option linter.unusedSimpArgs false

/-- the link of the class's free block at k is not its link -/
def lkBad (n : Nat) (r : Raw) (c k : Nat) : Bool := r.F c k && !(r.W k == linkV (nxr (r.F c) (64 * n) (k + 1)))
set_option maxRecDepth 100000 in
set_option maxHeartbeats 4000000 in
theorem wrongLink_any {w : World} {lo hi n cap : Nat} {s : Nat → Nat} {r : Raw} (h : RawAt w lo hi s n cap r) {c : Nat} (hc : c < 8) :
    Calls Tryz.prog 72 #[.pointer (some ⟨s 14, 0, none⟩), .int .i64 (c : Int)] w fun e w' => e = .returned (.int .i64 (nxr (lkBad n r c) (64 * n) 0)) ∧ Out 0 0 w w' := by
  have HR0 := hid_mk h
  have HC := hid_mk hc
  have HT : Hid (hi ≤ w.heap.size ∧ 4 ≤ w.heap.size ∧ 4 ≤ lo ∧ n ≤ 4096) := ⟨h.top, h.tab.lt, h.glob, h.n2⟩
  have HL := hid_mk (fun w => links_any (s 14) (c : Int) w)
  clear h hc
  refine (callsIn_wide (n := 0)).1 ?_
  refine callsIn_of_wp_marks Tryz.func72 rfl trivial ?_ rfl
  simp only [Tryz.ntmps72, List.size_toArray, List.length_cons, List.length_nil, Nat.reduceAdd, Nat.reduceSub, Array.replicate_succ, Array.replicate_zero, List.push_toArray, List.append_toArray, List.nil_append, List.cons_append]
  gi_wp2_with (refine ⟨trivial, rfl, ?_⟩; gi_at_call 121; refine (callsIn_wide.2 (HL.out _)).mono ?_; rintro e w1 ⟨rfl, rfl⟩)
  obtain ⟨W1, hW1⟩ : ∃ W1, (((w.alloc (.cells #[.pointer (some ⟨s 14, 0, none⟩)] 34)).alloc (.cells #[.int .i64 0] 3)).alloc (.cells #[.pointer (some ⟨s 14, 0, none⟩)] 34)).alloc (.cells #[.int .i64 (c : Int)] 3) = W1 := ⟨_, rfl⟩
  obtain ⟨G, hG⟩ : ∃ G, w.heap.size = G := ⟨_, rfl⟩
  have hs1 : W1.heap.size = G + 4 := by rw [← hW1, ← hG]; simp
  have ho1 : Out 0 0 w W1 := by rw [← hW1]; exact (((((Out.refl 0 0 w).alloc _).alloc _).alloc _).alloc _)
  have hy1 : Box W1 G 34 (.pointer (some ⟨s 14, 0, none⟩)) := by
    rw [← hW1, ← hG]; exact Box.alloc (Box.alloc (w := (w.alloc (.cells #[.pointer (some ⟨s 14, 0, none⟩)] 34)).alloc (.cells #[.int .i64 0] 3)) two_first _) _
  have hr1 : Box W1 (G + 1) 3 (.int .i64 0) := by
    rw [← hW1, ← hG]; exact Box.alloc (Box.alloc (w := (w.alloc (.cells #[.pointer (some ⟨s 14, 0, none⟩)] 34)).alloc (.cells #[.int .i64 0] 3)) (heap_alloc2_new _ _ _) _) _
  have hx1 : Box W1 (G + 1 + 1) 34 (.pointer (some ⟨s 14, 0, none⟩)) := by
    have := heap_alloc_new ((w.alloc (.cells #[.pointer (some ⟨s 14, 0, none⟩)] 34)).alloc (.cells #[.int .i64 0] 3)) (.cells #[.pointer (some ⟨s 14, 0, none⟩)] 34)
    rw [World.size_alloc, World.size_alloc] at this
    rw [← hW1, ← hG]
    exact Box.alloc (w := ((w.alloc (.cells #[.pointer (some ⟨s 14, 0, none⟩)] 34)).alloc (.cells #[.int .i64 0] 3)).alloc (.cells #[.pointer (some ⟨s 14, 0, none⟩)] 34)) this _
  have hz1 : Box W1 (G + 1 + 1 + 1) 3 (.int .i64 (c : Int)) := by
    have := heap_alloc_new (((w.alloc (.cells #[.pointer (some ⟨s 14, 0, none⟩)] 34)).alloc (.cells #[.int .i64 0] 3)).alloc (.cells #[.pointer (some ⟨s 14, 0, none⟩)] 34)) (.cells #[.int .i64 (c : Int)] 3)
    rw [World.size_alloc, World.size_alloc, World.size_alloc] at this
    rw [← hW1, ← hG]
    exact this
  rw [hW1, hG]
  rw [hG] at HT
  have HGw := hid_mk hG
  have HO1 := hid_mk ho1
  have HY1 := hid_mk hy1
  have HX1 := hid_mk hx1
  have HZ1 := hid_mk hz1
  have HR1 := hid_mk hr1
  clear hW1 ho1 hy1 hx1 hz1 hr1 hG
  refine range_any (gf := 153) (lb := #[.pointer (some ⟨G + 1 + 1, 0, none⟩), .pointer (some ⟨G + 1 + 1 + 1, 0, none⟩)]) rfl (enters_of Tryz.func153 (by kernel_rfl) rfl)
    (fun W => (∀ j, j < 64 * n → lkBad n r c j = false) ∧ Box W (G + 1) 3 (.int .i64 0) ∧ Out 0 0 w W) (fun c' W => c' = .ret ∧ Box W (G + 1) 3 (.int .i64 (nxr (lkBad n r c) (64 * n) 0)) ∧ Out 0 0 w W) ?H ?done ?stop
  case H =>
    intro rec hrec W2 hW2
    rw [hs1]
    have HR := hid_mk hrec
    have ho2 : Out 0 0 W1 W2 := by rw [hW2]; exact ((Out.refl 0 0 W1).alloc _).alloc _
    have hs2 : W2.heap.size = G + 6 := by rw [hW2]; simp [hs1]
    have hd2 : W2.heap[G + 4]? = some (.deferred (some [])) := by rw [hW2, ← hs1]; exact two_first
    have hl2 : W2.heap[G + 4 + 1]? = some (.loop (rec .ready none)) := by rw [hW2, ← hs1]; exact heap_alloc2_new _ _ _
    refine (links_yield (lo := lo) (hi := hi) (n := n) (cap := cap) (s := s) (S := r.F c) (c := c) (g := G + 1 + 1) (gc := G + 1 + 1 + 1) (l := G + 4 + 1) HC.out
      (fun p W => RawAt W lo hi s n cap r ∧ (∀ j, j < p → lkBad n r c j = false) ∧ Box W G 34 (.pointer (some ⟨s 14, 0, none⟩)) ∧ Box W (G + 1) 3 (.int .i64 0) ∧ Box W (G + 1 + 1) 34 (.pointer (some ⟨s 14, 0, none⟩)) ∧ Box W (G + 1 + 1 + 1) 3 (.int .i64 (c : Int)) ∧ W.heap[G + 4]? = some (.deferred (some [])) ∧ W.heap[G + 4 + 1]? = some (.loop (rec .ready none)) ∧ Out 0 0 w W)
      (fun W => (∀ j, j < 64 * n → lkBad n r c j = false) ∧ Box W (G + 1) 3 (.int .i64 0) ∧ W.heap[G + 4]? = some (.deferred (some [])) ∧ W.heap[G + 4 + 1]? = some (.loop (rec .ready none)) ∧ Out 0 0 w W)
      (fun W => Box W (G + 1) 3 (.int .i64 (nxr (lkBad n r c) (64 * n) 0)) ∧ W.heap[G + 4]? = some (.deferred (some [])) ∧ W.heap[G + 4 + 1]? = some (.loop (rec .done (some .ret))) ∧ Out 0 0 w W) (w := W2) ?hm1 ?hq1 ?hs1 ?hqj1 ?hqx1 ?hy1 ?he1 ?hz1).mono ?_
    case hm1 =>
      rintro p W ⟨a1, a2, a3, a4, a5, a6, a7, a8, a9⟩
      exact ⟨_, a1, rfl, a5, a6⟩
    case hq1 =>
      rintro p W W' x y ⟨a1, a2, a3, a4, a5, a6, a7, a8, a9⟩ o hx
      have hT := HT.out
      have hgw := HGw.out
      exact ⟨a1.kept o (by omega) (by omega), a2, a3.kept o (by omega), a4.kept o (by omega), a5.kept o (by omega), a6.kept o (by omega), o.heap a7 (by omega), o.heap a8 (by omega), out_far a9 o (by omega)⟩
    case hs1 =>
      rintro p q W ⟨a1, a2, a3⟩ hpq hz
      refine ⟨a1, fun j hj => ?_, a3⟩
      by_cases e : j < p
      · exact a2 j e
      · unfold lkBad; rw [hz j (by omega) hj]; rfl
    case hqj1 =>
      rintro W W' x y ⟨a1, a2, a3, a4, a5⟩ o hx
      have hT := HT.out
      have hgw := HGw.out
      exact ⟨a1, a2.kept o (by omega), o.heap a3 (by omega), o.heap a4 (by omega), out_far a5 o (by omega)⟩
    case hqx1 =>
      rintro W W' x y ⟨a2, a3, a4, a5⟩ o hx
      have hT := HT.out
      have hgw := HGw.out
      exact ⟨a2.kept o (by omega), o.heap a3 (by omega), o.heap a4 (by omega), out_far a5 o (by omega)⟩
    case he1 =>
      rintro p W ⟨a1, a2, a3, a4, a5, a6, a7, a8, a9⟩ hz
      refine ⟨fun j hj => ?_, a4, a7, a8, a9⟩
      by_cases e : j < p
      · exact a2 j e
      · unfold lkBad; rw [hz j (by omega) hj]; rfl
    case hz1 =>
      exact ⟨HR0.out.quiet (HO1.out.trans ho2), fun j h => absurd h (by omega), HY1.out.kept ho2 (.inr (Nat.zero_le _)), HR1.out.kept ho2 (.inr (Nat.zero_le _)), HX1.out.kept ho2 (.inr (Nat.zero_le _)), HZ1.out.kept ho2 (.inr (Nat.zero_le _)), hd2, hl2, (HO1.out.trans ho2)⟩
    case hy1 =>
      rintro a W ⟨a1, a2, a3, a4, a5, a6, a7, a8, a9⟩ hSa haN
      have A := hid_mk (And.intro a1 (And.intro a3 (And.intro a4 (And.intro a5 (And.intro a6 (And.intro a7 a9))))))
      have HBf := hid_mk a2
      have HBk : Hid (lkBad n r c a = !(r.W a == linkV (nxr (r.F c) (64 * n) (a + 1)))) := by show _ = _; unfold lkBad; rw [hSa]; rfl
      have HaN := hid_mk haN
      have HL5 := hid_mk a8
      have k0 : (0 : Int) ≤ (a : Int) := by omega
      have k1 : (a : Int) < ((64 * n : Nat) : Int) := by omega
      have k2 : ((64 * n : Nat) : Int) ≤ 262144 := by have := HT.out; omega
      have k3 : (a : Int) < 64 * (n : Int) := by omega
      refine round_any HR.out a8 rfl ?_
      clear a1 a2 a3 a4 a5 a6 a7 a8 a9 hSa haN
      gi_wp2
      refine ⟨HL5.out, ?_⟩
      intro W3 ho3 hl3
      have hT := HT.out
      have hgw := HGw.out
      have hr3 := A.out.1.kept ho3 (.inl (by omega)) (.inl (by omega))
      have hy3 := A.out.2.1.kept ho3 (.inl (by omega))
      have hx3 := A.out.2.2.1.kept ho3 (.inl (by omega))
      have HX3 := hid_mk (And.intro hx3 (And.intro (A.out.2.2.2.1.kept ho3 (.inl (by omega))) (And.intro (A.out.2.2.2.2.1.kept ho3 (.inl (by omega))) (And.intro (ho3.heap A.out.2.2.2.2.2.1 (by omega)) (out_far A.out.2.2.2.2.2.2 ho3 (.inl (by omega)))))))
      have HO3 := hid_mk ho3
      have HL3 := hid_mk hl3
      have HR3 := hid_mk hr3
      have HY3 := hid_mk hy3
      have c0 := hy3.cell
      have c1 := hr3.cells.1
      have d0 := hr3.words.cell HaN.out
      have e0 := hx3.cell
      have e1 := hx3.frozen
      clear ho3 hl3 hr3 hy3 hx3 hT hgw A
      gi_wp2_with fail
      refine region_roundN (S := fun w' => w'.cell? ⟨G, 0, none⟩ = some (.pointer (some ⟨s 14, 0, none⟩)) ∧ w'.cell? ⟨s 14, 0, none⟩ = some (.slice (some ⟨s 11, 0, none⟩) (64 * n) cap) ∧ w'.cell? ⟨s 11, a, none⟩ = some (.int .i64 (r.W a))) (by kernel_rfl) (by kernel_rfl) ?hS1 (fun hHeld => ?rest1)
      case hS1 => exact ⟨c0, c1, d0⟩
      refine wpAnyH_take (i := 0) (v := ?v2) rfl (by kernel_rfl) (by kernel_rfl) (by kernel_rfl) (fun _ _ _ h => h) (Or.inl ⟨by rfl, ?hy2⟩) (by assumption) ?rest2
      case hy2 => (intro w hSw; (try dsimp only at hSw); simp only [List.getElem_toArray, List.getElem_cons_zero, List.getElem_cons_succ]; go_simp; (try with_reducible rfl))
      (try simp only [Act.put, List.getElem_toArray, List.getElem_cons_zero, List.getElem_cons_succ, List.setIfInBounds_toArray, List.set_cons_zero, List.set_cons_succ])
      refine wpAnyH_take (i := 1) (v := ?v3) rfl (by kernel_rfl) (by kernel_rfl) (by kernel_rfl) (fun _ _ _ h => h) (Or.inl ⟨by rfl, ?hy3⟩) (by assumption) ?rest3
      case hy3 => (intro w hSw; (try dsimp only at hSw); simp only [List.getElem_toArray, List.getElem_cons_zero, List.getElem_cons_succ]; go_simp; (try with_reducible rfl))
      (try simp only [Act.put, List.getElem_toArray, List.getElem_cons_zero, List.getElem_cons_succ, List.setIfInBounds_toArray, List.set_cons_zero, List.set_cons_succ])
      refine wpAnyH_take (i := 2) (v := ?v4) rfl (by kernel_rfl) (by kernel_rfl) (by kernel_rfl) (fun _ _ _ h => h) (Or.inl ⟨by rfl, ?hy4⟩) (by assumption) ?rest4
      case hy4 => (intro w hSw; (try dsimp only at hSw); simp only [List.getElem_toArray, List.getElem_cons_zero, List.getElem_cons_succ]; go_simp; (try with_reducible rfl))
      (try simp only [Act.put, List.getElem_toArray, List.getElem_cons_zero, List.getElem_cons_succ, List.setIfInBounds_toArray, List.set_cons_zero, List.set_cons_succ])
      refine wpAnyH_take (i := 3) (v := ?v5) rfl (by kernel_rfl) (by kernel_rfl) (by kernel_rfl) (fun _ _ _ h => h) (Or.inl ⟨by rfl, ?hy5⟩) (by assumption) ?rest5
      case hy5 => (intro w hSw; (try dsimp only at hSw); simp only [List.getElem_toArray, List.getElem_cons_zero, List.getElem_cons_succ]; go_simp; (try with_reducible rfl))
      (try simp only [Act.put, List.getElem_toArray, List.getElem_cons_zero, List.getElem_cons_succ, List.setIfInBounds_toArray, List.set_cons_zero, List.set_cons_succ])
      refine wpAnyH_take (i := 4) (v := ?v6) rfl (by kernel_rfl) (by kernel_rfl) (by kernel_rfl) (fun _ _ _ h => h) (Or.inl ⟨by rfl, ?hy6⟩) (by assumption) ?rest6
      case hy6 => (intro w hSw; (try dsimp only at hSw); simp only [List.getElem_toArray, List.getElem_cons_zero, List.getElem_cons_succ]; go_simp; (try with_reducible rfl))
      (try simp only [Act.put, List.getElem_toArray, List.getElem_cons_zero, List.getElem_cons_succ, List.setIfInBounds_toArray, List.set_cons_zero, List.set_cons_succ])
      refine wpAnyH_take (i := 5) (v := ?v7) rfl (by kernel_rfl) (by kernel_rfl) (by kernel_rfl) (fun _ _ _ h => h) (Or.inl ⟨by rfl, ?hy7⟩) (by assumption) ?rest7
      case hy7 => (intro w hSw; (try dsimp only at hSw); simp only [List.getElem_toArray, List.getElem_cons_zero, List.getElem_cons_succ]; go_simp; (try with_reducible rfl))
      (try simp only [Act.put, List.getElem_toArray, List.getElem_cons_zero, List.getElem_cons_succ, List.setIfInBounds_toArray, List.set_cons_zero, List.set_cons_succ])
      refine wpAnyH_take (i := 6) (v := ?v8) rfl (by kernel_rfl) (by kernel_rfl) (by kernel_rfl) (fun _ _ _ h => h) (Or.inl ⟨by rfl, ?hy8⟩) (by assumption) ?rest8
      case hy8 => (intro w hSw; (try dsimp only at hSw); simp only [List.getElem_toArray, List.getElem_cons_zero, List.getElem_cons_succ]; go_simp; (try with_reducible rfl))
      (try simp only [Act.put, List.getElem_toArray, List.getElem_cons_zero, List.getElem_cons_succ, List.setIfInBounds_toArray, List.set_cons_zero, List.set_cons_succ])
      refine wpAnyH_take (i := 7) (v := ?v9) rfl (by kernel_rfl) (by kernel_rfl) (by kernel_rfl) (fun _ _ _ h => h) (Or.inl ⟨by rfl, ?hy9⟩) (by assumption) ?rest9
      case hy9 => (intro w hSw; (try dsimp only at hSw); simp only [List.getElem_toArray, List.getElem_cons_zero, List.getElem_cons_succ]; go_simp; (try with_reducible rfl))
      (try simp only [Act.put, List.getElem_toArray, List.getElem_cons_zero, List.getElem_cons_succ, List.setIfInBounds_toArray, List.set_cons_zero, List.set_cons_succ])
      refine wpAnyH_ready (rs := [8]) (by kernel_rfl) (by simp) ?_
      refine AllReadyH.cons rfl (fun KK hK => ?_) AllReadyH.nil
      simp only [List.getElem_toArray, List.getElem_cons_zero, List.getElem_cons_succ]
      go_simp
      refine (link_at (nxr (r.F c) (64 * n) (a + 1)) _).mono ?_
      rintro e w5 ⟨rfl, rfl⟩
      refine hK.out _ _ ?hS10 (fun hHeld2 => ?rest10)
      case hS10 => exact hHeld
      clear hK KK
      (try clear hHeld)
      have hHeld := hHeld2
      clear hHeld2
      (try simp only [Act.put, List.getElem_toArray, List.getElem_cons_zero, List.getElem_cons_succ, List.setIfInBounds_toArray, List.set_cons_zero, List.set_cons_succ])
      refine wpAnyH_take (i := 9) (v := ?v11) rfl (by kernel_rfl) (by kernel_rfl) (by kernel_rfl) (fun _ _ _ h => h) (Or.inl ⟨by rfl, ?hy11⟩) (by assumption) ?rest11
      case hy11 => (intro w hSw; (try dsimp only at hSw); simp only [List.getElem_toArray, List.getElem_cons_zero, List.getElem_cons_succ]; go_simp; (try with_reducible rfl))
      (try simp only [Act.put, List.getElem_toArray, List.getElem_cons_zero, List.getElem_cons_succ, List.setIfInBounds_toArray, List.set_cons_zero, List.set_cons_succ])
      refine wpAnyH_done (by kernel_rfl) ?_ _
      clear hHeld
      simp only [noOut, onlyN]
      have HD3 : Hid (Out 0 0 W3 W3.drew) := (Out.refl 0 0 W3).drew
      generalize W3.drew = W4 at HD3 ⊢
      rw [show (r.W a != linkV (nxr (r.F c) (64 * n) (a + 1))) = lkBad n r c a from HBk.out.symm]
      have hx4 := HX3.out.1.kept HD3.out (.inr (Nat.zero_le _))
      have e0 := hx4.cell
      have e1 := hx4.frozen
      have HX4 := hid_mk hx4
      clear hx4
      cases hbad : lkBad n r c a with
      | false =>
        have HBd := hid_mk hbad
        clear hbad
        gi_wp2
        have hT := HT.out
        have hgw := HGw.out
        have hd3 := HD3.out
        refine ⟨hd3.heap HL3.out (.inr (Nat.zero_le _)), ?_⟩
        intro W5 ho6 hl6
        have o3 := HO3.out
        obtain ⟨f1, f2, f3, f4, f5⟩ := HX3.out
        have o36 : Out 0 W2.heap.size W W5 := by rw [hs2]; exact ((o3.wide (Nat.zero_le _) (by omega)).trans (hd3.any _ _)).trans (ho6.wide (Nat.zero_le _) (by omega))
        refine ⟨o36, .inl ⟨rfl, (HR3.out.quiet hd3).kept ho6 (by omega) (by omega), fun j hj => ?_, (HY3.out.kept hd3 (.inr (Nat.zero_le _))).kept ho6 (by omega), (f1.kept hd3 (.inr (Nat.zero_le _))).kept ho6 (by omega), (f2.kept hd3 (.inr (Nat.zero_le _))).kept ho6 (by omega), (f3.kept hd3 (.inr (Nat.zero_le _))).kept ho6 (by omega), ho6.heap (hd3.heap f4 (.inr (Nat.zero_le _))) (by omega), hl6, out_far (f5.trans hd3) ho6 (by omega)⟩⟩
        by_cases e : j = a
        · rw [e]; exact HBd.out
        · exact HBf.out j (by omega)
      | true =>
        have HBd := hid_mk hbad
        clear hbad
        gi_wp2
        have hT := HT.out
        have hgw := HGw.out
        have hd3 := HD3.out
        have hset := (Out.refl (G + 1) (G + 2) W4).setCell (p := ⟨G + 1, 0, none⟩) (.inl ⟨Nat.le_refl _, Nat.lt_succ_self _⟩) (.int .i64 (a : Int))
        have hbx := HX4.out.set (.int .i64 (a : Int))
        have hnx : nxr (lkBad n r c) (64 * n) 0 = (a : Int) := nxr_of HaN.out (Nat.zero_le _) HBd.out (fun j _ hj => HBf.out j hj)
        refine ⟨hset.heap (hd3.heap HL3.out (.inr (Nat.zero_le _))) (by omega), ?_⟩
        intro W5 ho6 hl6
        have o3 := HO3.out
        obtain ⟨f1, f2, f3, f4, f5⟩ := HX3.out
        have o36 : Out 0 W2.heap.size W W5 := by rw [hs2]; exact (((o3.wide (Nat.zero_le _) (by omega)).trans (hd3.any _ _)).trans (hset.wide (Nat.zero_le _) (by omega))).trans (ho6.wide (Nat.zero_le _) (by omega))
        exact ⟨o36, .inr ⟨rfl, by rw [hnx]; exact hbx.kept ho6 (by omega), ho6.heap (hset.heap (hd3.heap f4 (.inr (Nat.zero_le _))) (by omega)) (by omega), hl6, out_far (out_far (f5.trans hd3) hset (by omega)) ho6 (by omega)⟩⟩
    · rintro e W ⟨hv, ⟨a1, a2, a3, a4, a5⟩ | ⟨a2, a3, a4, a5⟩⟩
      · exact ⟨hv, a3, .inl ⟨⟨a1, a2, a5⟩, a4⟩⟩
      · exact ⟨hv, a3, .inr ⟨_, ⟨rfl, a2, a5⟩, a4⟩⟩
  case stop =>
    rintro c' W W' ⟨rfl, a2, a3⟩ ho hd
    rw [hs1] at ho hd ⊢
    have HD := hid_mk hd
    have hgw := HGw.out
    have hT := HT.out
    have HX := hid_mk (a2.kept ho (.inl (by omega)))
    have HO := hid_mk (out_far a3 ho (.inl (by omega)))
    clear a2 a3 hd ho hgw hT
    gi_wp2
    have hgw := HGw.out
    have hT := HT.out
    refine ⟨by simp, .inl ⟨_, _, rfl, run_takeDeferred HD.out, ?_⟩⟩
    have hx := HX.out.kept (out_putObj W' (G + 4) (.deferred none)) (.inl (by omega))
    refine ⟨_, (results_cell rfl _ _ _).trans ?_, rfl, out_far HO.out (out_putObj _ _ _) (by omega)⟩
    exact load_int hx
  case done =>
    rintro W W' ⟨a1, a2, a3⟩ ho hd
    rw [hs1] at ho hd ⊢
    have hgw := HGw.out
    have hT := HT.out
    have HD := hid_mk hd
    have hx' := a2.kept ho (.inl (by omega))
    have HX := hid_mk hx'
    have HO := hid_mk (out_far a3 ho (.inl (by omega)))
    have HN := hid_mk a1
    have c0 := hx'.cell
    have c1 := hx'.frozen
    clear a1 a2 a3 hd hx' ho hgw hT
    gi_wp2
    have hgw := HGw.out
    have hT := HT.out
    have hset := (Out.refl (G + 1) (G + 2) W').setCell (p := ⟨G + 1, 0, none⟩) (.inl ⟨Nat.le_refl _, Nat.lt_succ_self _⟩) (.int .i64 (-1))
    refine ⟨by simp, .inl ⟨_, _, rfl, run_takeDeferred (hset.heap HD.out (by omega)), ?_⟩⟩
    have hx := (HX.out.set (.int .i64 (-1))).kept (out_putObj _ (G + 4) (.deferred none)) (.inl (by omega))
    refine ⟨.int .i64 (-1), (results_cell rfl _ _ _).trans ?rs, ?_, out_far (out_far HO.out hset (by omega)) (out_putObj _ _ _) (by omega)⟩
    case rs => exact load_int hx
    rcases nxr_cases (lkBad n r c) (64 * n) 0 with ⟨e1, _⟩ | ⟨i, e1, e2, e3, e4, e5⟩
    · rw [e1]
    · rw [HN.out i e2] at e4; cases e4
end Go.Proofs.YtjbbkeoolodeaaaGreatDoor
namespace Go.Proofs.YtjbbkeoolodeaaaGreatDoor
open Go.RowKit
attribute [local go_sem] Oper.semAt_some
set_option linter.unusedVariables false
set_option linter.unusedSimpArgs false

/-- a wrong header, or a wrong link of a class below c -/
def wrTo (n : Nat) (r : Raw) : Nat → Nat → Bool
  | 0 => hdBad r
  | c + 1 => fun k => wrTo n r c k || lkBad n r c k
theorem nxr_or (A B : Nat → Bool) (N : Nat) : nxr (fun k => A k || B k) N 0 = if 0 ≤ nxr B N 0 ∧ (nxr A N 0 < 0 ∨ nxr B N 0 < nxr A N 0) then nxr B N 0 else nxr A N 0 := by
  rcases nxr_cases A N 0 with ⟨a1, a2⟩ | ⟨i, a1, a2, _, a4, a5⟩
  · rcases nxr_cases B N 0 with ⟨b1, b2⟩ | ⟨j, b1, b2, _, b4, b5⟩
    · rw [a1, b1, if_neg (by omega)]
      rcases nxr_cases (fun k => A k || B k) N 0 with ⟨c1, c2⟩ | ⟨k, c1, c2, _, c4, c5⟩
      · exact c1
      · simp only [a2 k (Nat.zero_le _) c2, b2 k (Nat.zero_le _) c2] at c4
        cases c4
    · rw [a1, b1, if_pos (by omega)]
      exact nxr_of b2 (Nat.zero_le _) (by simp [b4]) (fun k _ hk => by simp [a2 k (Nat.zero_le _) (by omega), b5 k (Nat.zero_le _) hk])
  · rcases nxr_cases B N 0 with ⟨b1, b2⟩ | ⟨j, b1, b2, _, b4, b5⟩
    · rw [a1, b1, if_neg (by omega)]
      exact nxr_of a2 (Nat.zero_le _) (by simp [a4]) (fun k _ hk => by simp [a5 k (Nat.zero_le _) hk, b2 k (Nat.zero_le _) (by omega)])
    · rw [a1, b1]
      by_cases e : j < i
      · rw [if_pos (by omega)]
        exact nxr_of b2 (Nat.zero_le _) (by simp [b4]) (fun k _ hk => by simp [a5 k (Nat.zero_le _) (by omega), b5 k (Nat.zero_le _) hk])
      · rw [if_neg (by omega)]
        exact nxr_of a2 (Nat.zero_le _) (by simp [a4]) (fun k _ hk => by simp [a5 k (Nat.zero_le _) hk, b5 k (Nat.zero_le _) (by omega)])
section
variable {w : World} {lo hi n cap : Nat} {s : Nat → Nat} {r : Raw}
set_option maxHeartbeats 2000000 in
theorem wrong_any (h : RawAt w lo hi s n cap r) (hT : Told r) :
    Calls Tryz.prog 32 #[.pointer (some ⟨s 14, 0, none⟩)] w fun e w' => e = .returned (.int .i64 (nxr (wrTo n r 8) (64 * n) 0)) ∧ Out 0 0 w w' := by
  have HR := hid_mk h
  have HH := hid_mk (wrongHeader_any h hT)
  clear h hT
  go_enter Tryz.func32, Tryz.ntmps32
  go_wp2_with (first
    | (go_at_call 44; refine calls_same (self_any _ _) ?_)
    | (go_at_call 71; refine HH.out.mono ?_; rintro e w1 ⟨rfl, ho⟩; have HO := hid_mk ho; clear ho))
  go_loopw [3, 10] (fun v u wr => ∃ i : Nat, u = .int .i64 (i : Int) ∧ v = .int .i64 (nxr (wrTo n r i) (64 * n) 0) ∧ i ≤ 8 ∧ Out 0 0 w wr) (fun _ u _ => ((8 : Int) - intOf u).toNat)
  case atStart => exact ⟨0, rfl, rfl, Nat.zero_le _, HO.out⟩
  case round =>
    obtain ⟨i, rfl, rfl, i1, i3⟩ := hrel
    have HO1 := hid_mk i3
    have j0 : (0 : Int) ≤ (i : Int) := by omega
    by_cases hlt : (i : Int) < 8
    · have HC : Hid (i < 8) := by show _ < _; omega
      have HL := hid_mk (wrongLink_any (HR.out.quiet i3) HC.out)
      have HN : Hid (nxr (wrTo n r (i + 1)) (64 * n) 0 = _) := nxr_or (wrTo n r i) (lkBad n r i) (64 * n)
      clear i3
      generalize nxr (wrTo n r i) (64 * n) 0 = x at *
      generalize nxr (lkBad n r i) (64 * n) 0 = y at *
      by_cases h1 : 0 ≤ y
      · by_cases h2 : x < 0
        · go_wp2_with (go_at_call 72; refine HL.out.mono ?_; rintro e w4 ⟨rfl, ho⟩)
          exact ⟨⟨i + 1, by congr 1, by rw [HN.out, if_pos ⟨h1, .inl h2⟩], by omega, HO1.out.trans ho⟩, by simp [intOf]; omega⟩
        · by_cases h3 : y < x
          · go_wp2_with (go_at_call 72; refine HL.out.mono ?_; rintro e w4 ⟨rfl, ho⟩)
            exact ⟨⟨i + 1, by congr 1, by rw [HN.out, if_pos ⟨h1, .inr h3⟩], by omega, HO1.out.trans ho⟩, by simp [intOf]; omega⟩
          · go_wp2_with (go_at_call 72; refine HL.out.mono ?_; rintro e w4 ⟨rfl, ho⟩)
            exact ⟨⟨i + 1, by congr 1, by rw [HN.out, if_neg (by omega)], by omega, HO1.out.trans ho⟩, by simp [intOf]; omega⟩
      · go_wp2_with (go_at_call 72; refine HL.out.mono ?_; rintro e w4 ⟨rfl, ho⟩)
        exact ⟨⟨i + 1, by congr 1, by rw [HN.out, if_neg (by omega)], by omega, HO1.out.trans ho⟩, by simp [intOf]; omega⟩
    · have e : i = 8 := by omega
      subst e
      clear i3
      go_wp2
      go_ret
      exact ⟨rfl, HO1.out⟩
end
end Go.Proofs.YtjbbkeoolodeaaaGreatDoor
namespace Go.Proofs.YtjbbkeoolodeaaaGreatDoor
open Go.RowKit
set_option linter.unusedVariables false
set_option linter.unusedSimpArgs false

end Go.Proofs.YtjbbkeoolodeaaaGreatDoor
namespace Go.Proofs.YtjbbkeoolodeaaaGreatDoor
open Go.RowKit
set_option linter.unusedVariables false
set_option linter.unusedSimpArgs false

end Go.Proofs.YtjbbkeoolodeaaaGreatDoor
namespace Go.Proofs.YtjbbkeoolodeaaaGreatDoor
open Go.RowKit
set_option linter.unusedVariables false
set_option linter.unusedSimpArgs false

end Go.Proofs.YtjbbkeoolodeaaaGreatDoor
namespace Go.Proofs.YtjbbkeoolodeaaaGreatDoor
open Go.RowKit
set_option linter.unusedVariables false
set_option linter.unusedSimpArgs false

end Go.Proofs.YtjbbkeoolodeaaaGreatDoor
namespace Go.Proofs.YtjbbkeoolodeaaaGreatDoor
open Go.RowKit
set_option linter.unusedVariables false
set_option linter.unusedSimpArgs false

section
variable {w : World} {lo hi n cw co : Nat} {s : Nat → Nat} {st : Sp}
theorem used_no {p : Nat} (hI : Inv n st) (hb : hasB (st.O p) = false) : usedTo (rawOf n st) (p + 1) = usedTo (rawOf n st) p := by
  have : (rawOf n st).P p = false := by show ob n st p = false; rw [ob_has hI]; exact hb
  conv => lhs; unfold usedTo
  rw [this]; rfl
theorem used_yes {p : Nat} (hI : Inv n st) (hb : hasB (st.O p) = true) : usedTo (rawOf n st) (p + 1) = usedTo (rawOf n st) p + roomN (st.O p).2.1 := by
  have hP : (rawOf n st).P p = true := by show ob n st p = true; rw [ob_has hI]; exact hb
  have hM : (rawOf n st).M (p : Int) = some (st.O p) := by
    show obM st (p : Int) = _
    unfold obM
    rw [show ((p : Nat) : Int).toNat = p from by omega, if_pos ⟨by omega, hb⟩]
  conv => lhs; unfold usedTo
  rw [hP, hM]; rfl
theorem used_most (hI : Inv n st) : ∀ p, usedTo (rawOf n st) p ≤ p * 1024
  | 0 => Nat.le_refl _
  | p + 1 => by
    have ih := used_most hI p
    cases hb : hasB (st.O p) with
    | false => rw [used_no hI hb]; exact Nat.le_trans ih (Nat.mul_le_mul_right _ (Nat.le_succ p))
    | true =>
      rw [used_yes hI hb]
      have hz := fits_size (hI.objs p hb).2.1
      have : roomN (st.O p).2.1 ≤ 1024 := by
        unfold roomN
        split
        · omega
        · have hs := of_small hz.2.2.1 (by omega)
          have := wN_pos hs.1 hs.2.1
          omega
      omega
set_option maxRecDepth 100000 in
set_option maxHeartbeats 4000000 in
theorem refRoomAll_any (h : RfAt w lo hi s n cw co st) (hI : Inv n st) : Calls Tryz.prog 35 #[.pointer (some ⟨s 0, 0, none⟩)] w fun e w' => e = .returned (.int .i64 (usedTo (rawOf n st) (64 * n) : Int)) ∧ w' = w := by
  have h2 := h.n2
  obtain ⟨M, hM⟩ : ∃ M, 64 * n = M := ⟨_, rfl⟩
  have c2 := h.cells.2.2.1
  rw [hM] at c2 ⊢
  have M1 : (M : Int) ≤ 262144 := by omega
  have M0 : (0 : Int) ≤ (M : Int) := by omega
  have HRo := hid_mk h.ro
  have HM := hid_mk hM
  have HI := hid_mk hI
  clear h h2 hM hI
  go_enter Tryz.func35, Tryz.ntmps35
  go_wp2_with fail
  go_loopw [3, 4] (fun q u wr => ∃ a : Nat, q = .int .i64 (usedTo (rawOf n st) a : Int) ∧ u = .int .i64 (a : Int) ∧ a ≤ M ∧ wr = w) (fun _ u _ => M - (intOf u).toNat)
  case atStart => exact ⟨0, rfl, rfl, Nat.zero_le _, rfl⟩
  case round =>
    obtain ⟨a, rfl, rfl, ab, hwr⟩ := hrel
    subst hwr
    have a0 : (0 : Int) ≤ (a : Int) := by omega
    by_cases ha : a < M
    · have a1 : (a : Int) < (M : Int) := by omega
      have hm := HM.out
      have d1 := HRo.out.cell (i := a * 5 + 1) (by omega)
      have d3 := HRo.out.cell (i := a * 5 + 2) (by omega)
      rw [obC_kind] at d1
      have hmost := used_most HI.out a
      obtain ⟨q, hq⟩ : ∃ q, usedTo (rawOf n st) a = q := ⟨_, rfl⟩
      rw [hq] at hmost ⊢
      have q0 : (0 : Int) ≤ (q : Int) := by omega
      have q1 : (q : Int) ≤ 268435456 := by omega
      cases hb : hasB (st.O a) with
      | false =>
        rw [hb, if_neg (by simp)] at d1
        have HN := hid_mk (used_no HI.out hb)
        have HQ := hid_mk hq
        clear hb d3 hm hmost hq
        go_wp2_with fail
        exact ⟨⟨a + 1, by rw [HN.out, HQ.out], by congr 1, by omega, by trivial⟩, by simp [intOf] <;> omega⟩
      | true =>
        obtain ⟨o0, o1, o2, o3, o4⟩ := obC_at (st := st) hb
        rw [hb, if_pos rfl] at d1
        rw [o2] at d3
        obtain ⟨k, hk⟩ : ∃ k, (st.O a).1 = k := ⟨_, rfl⟩
        obtain ⟨z, hz⟩ : ∃ z, (st.O a).2.1 = z := ⟨_, rfl⟩
        have hfz := fits_size (HI.out.objs a hb).2.1
        have hyes := used_yes HI.out hb
        rw [hk] at d1
        rw [hz] at d3 hfz hyes
        have hk0 : k ≠ 0 := by unfold hasB at hb; rw [hk] at hb; simpa using hb
        have hkb : (k != 0) = true := by simpa using hk0
        have HRm := hid_mk (fun w => refRoom_any hfz.2.2.1 hfz.2.2.2 w)
        obtain ⟨r, hr⟩ : ∃ r, roomN z = r := ⟨_, rfl⟩
        have r1 : (r : Int) ≤ 1024 := by
          rw [← hr]
          unfold roomN
          split
          · omega
          · have hs := of_small hfz.2.2.1 (by omega)
            have := wN_pos hs.1 hs.2.1
            omega
        have r0 : (0 : Int) ≤ (r : Int) := by omega
        rw [hr] at HRm hyes
        rw [hq] at hyes
        have HN := hid_mk hyes
        clear hb hk hz hm hmost hq hyes hfz hr o0 o1 o2 o3 o4
        go_wp2_with (go_at_call 76; refine calls_same (HRm.out _) ?_)
        exact ⟨⟨a + 1, by rw [HN.out]; push_cast; rfl, by congr 1, by omega, by trivial⟩, by simp [intOf] <;> omega⟩
    · have e : a = M := by omega
      subst e
      go_wp2
      go_ret
      exact ⟨rfl, rfl⟩
end
end Go.Proofs.YtjbbkeoolodeaaaGreatDoor
namespace Go.Proofs.YtjbbkeoolodeaaaGreatDoor
open Go.RowKit
set_option linter.unusedVariables false
set_option linter.unusedSimpArgs false

section
variable {w : World} {lo hi n cw co : Nat} {s : Nat → Nat} {st : Sp}
theorem objs_no {p : Nat} (hI : Inv n st) (hb : hasB (st.O p) = false) : objsTo (rawOf n st) (p + 1) = objsTo (rawOf n st) p := by
  have : (rawOf n st).P p = false := by show ob n st p = false; rw [ob_has hI]; exact hb
  conv => lhs; unfold objsTo
  rw [this]; rfl
theorem raw_M {p : Nat} (hb : hasB (st.O p) = true) : (rawOf n st).M (p : Int) = some (st.O p) := by
  show obM st (p : Int) = _
  unfold obM
  rw [show ((p : Nat) : Int).toNat = p from by omega, if_pos ⟨by omega, hb⟩]
theorem raw_P {p : Nat} (hI : Inv n st) : (rawOf n st).P p = hasB (st.O p) := by show ob n st p = _; rw [ob_has hI]
theorem objs_yes {p : Nat} (hI : Inv n st) (hb : hasB (st.O p) = true) : objsTo (rawOf n st) (p + 1) = objsTo (rawOf n st) p ++ [(p, st.O p)] :=
  objs_step (by rw [raw_P hI]; exact hb) (raw_M hb)
set_option maxRecDepth 100000 in
set_option maxHeartbeats 4000000 in
theorem refBlockL_any (h : RfAt w lo hi s n cw co st) (hI : Inv n st) : Calls Tryz.prog 30 #[.pointer (some ⟨s 0, 0, none⟩)] w fun e w' => ∃ v, e = .returned v ∧ BListIs w' w.heap.size v (objsTo (rawOf n st) (64 * n)) ∧ Out 0 0 w w' := by
  obtain ⟨i0, hi0, hz0, hz1, hz2⟩ := info_parts info_blk
  have h2 := h.n2
  obtain ⟨M, hM⟩ : ∃ M, 64 * n = M := ⟨_, rfl⟩
  have M1 : (M : Int) ≤ 262144 := by omega
  have M0 : (0 : Int) ≤ (M : Int) := by omega
  have HH := hid_mk h
  have HM := hid_mk hM
  have HI := hid_mk hI
  rw [hM]
  have HS0 : Hid (hi ≤ w.heap.size ∧ 4 ≤ w.heap.size) := by
    have := h.glob; have := h.top; have := h.inn 0 (by omega)
    exact ⟨h.top, by omega⟩
  have b0 : BListIs w w.heap.size (.slice none 0 0) (objsTo (rawOf n st) 0) := ⟨rfl, .inl ⟨rfl, rfl⟩⟩
  have HB0 := hid_mk b0
  clear h h2 hM hI b0
  go_enter Tryz.func30, Tryz.ntmps30
  go_wp2_with fail
  go_loopw [3, 4] (fun l u wr => ∃ (a : Nat) (v : Value), l = v ∧ u = .int .i64 (a : Int) ∧ a ≤ M ∧ BListIs wr w.heap.size v (objsTo (rawOf n st) a) ∧ Out 0 0 w wr) (fun _ u _ => M - (intOf u).toNat)
  case atStart => exact ⟨0, _, rfl, rfl, Nat.zero_le _, HB0.out, Out.refl _ _ _⟩
  case round =>
    obtain ⟨a, _, rfl, rfl, ab, hL, hO⟩ := hrel
    have a0 : (0 : Int) ≤ (a : Int) := by omega
    have hR := HH.out.quiet hO
    have c2 := hR.cells.2.2.1
    rw [HM.out] at c2
    have HL := hid_mk hL
    have HO := hid_mk hO
    have HR := hid_mk hR
    clear hL hO hR
    by_cases ha : a < M
    · have a1 : (a : Int) < (M : Int) := by omega
      have hm := HM.out
      have d0 := HR.out.ro.cell (i := a * 5) (by omega)
      have d1 := HR.out.ro.cell (i := a * 5 + 1) (by omega)
      have d2 := HR.out.ro.cell (i := a * 5 + 2) (by omega)
      have d3 := HR.out.ro.cell (i := a * 5 + 3) (by omega)
      have d4 := HR.out.ro.cell (i := a * 5 + 4) (by omega)
      cases hb : hasB (st.O a) with
      | false =>
        rw [obC_kind, hb, if_neg (by simp)] at d1
        have HN := hid_mk (objs_no HI.out hb)
        clear hb d0 d2 d3 d4 hm
        go_wp2_with fail
        exact ⟨⟨a + 1, u3, rfl, by congr 1, by omega, by rw [HN.out]; exact HL.out, HO.out⟩, by simp [intOf] <;> omega⟩
      | true =>
        obtain ⟨o0, o1, o2, o3, o4⟩ := obC_at (st := st) hb
        have HN := hid_mk (objs_yes HI.out hb)
        obtain ⟨b1, b2, b3, b4, hO⟩ : ∃ b1 b2 b3 b4, st.O a = (b1, b2, b3, b4) := ⟨_, _, _, _, rfl⟩
        rw [hO] at o1 o2 o3 o4 HN
        dsimp only at o1 o2 o3 o4
        rw [o0] at d0
        rw [o1] at d1
        rw [o2] at d2
        rw [o3] at d3
        rw [o4] at d4
        have hk0 : b1 ≠ 0 := by rw [hO] at hb; unfold hasB at hb; simpa using hb
        have hkb : (b1 != 0) = true := by simpa using hk0
        have hlen := objs_len (rawOf n st) a
        obtain ⟨m, hmm⟩ : ∃ m, (objsTo (rawOf n st) a).length = m := ⟨_, rfl⟩
        obtain ⟨xs, hxs⟩ : ∃ xs, bks (objsTo (rawOf n st) a) = xs := ⟨_, rfl⟩
        have hl := HL.out
        unfold BListIs at hl
        rw [hmm, hxs] at hl
        have HMX := hid_mk (And.intro hmm hxs)
        have HV := hid_mk (own_block hl)
        have HMm : Hid (m ≤ 262144) := by show _ ≤ _; omega
        have HL3 : Hid ((wr.alloc (.cells #[.int .i64 (a : Int), .int .i64 b1, .int .i64 b2, .int .i64 b3, .int .i64 b4] 92)).ownsRow w.heap.size 92 5 u3 m xs) := ownk hl ((Out.refl 0 0 wr).alloc _) (Nat.zero_le _)
        have HN3 := hid_mk (blk_cells (heap_alloc_new wr (.cells #[.int .i64 (a : Int), .int .i64 b1, .int .i64 b2, .int .i64 b3, .int .i64 b4] 92)))
        have HG3 : Hid (w.heap.size ≤ (wr.alloc (.cells #[.int .i64 (a : Int), .int .i64 b1, .int .i64 b2, .int .i64 b3, .int .i64 b4] 92)).heap.size) := by
          show _ ≤ _
          have := HO.out.size; rw [World.size_alloc]; omega
        have hne : s 4 ≠ wr.heap.size := by have := HR.out.inn 4 (by omega); have := HR.out.top; omega
        clear hb hO hmm hxs hl hlen o0 o1 o2 o3 o4 hm
        go_wp2_with (at_builtin; refine wpList_append_own _ rfl _ _ 62 rfl w.heap.size 92 i0 (.agg #[.int .i64 0, .int .i64 0, .int .i64 0, .int .i64 0, .int .i64 0]) 5 40 Tryz.underlying62 hi0 hz0 hz1 hz2 rfl (by decide) u3 m xs rfl HL3.out ⟨wr.heap.size, 0, none⟩ 1 1 [.int .i64 (a : Int), .int .i64 b1, .int .i64 b2, .int .i64 b3, .int .i64 b4] rfl rfl HN3.out (by intro u hu; simp at hu; rcases hu with rfl | rfl | rfl | rfl | rfl <;> rfl) (by unfold maxLen; have := HMm.out; omega) (by have := HMm.out; omega) HG3.out ?_; intro v' w1 hown' hgrow hnil; have HP4 := hid_mk hown'; have HO4 := hid_mk (grown_out (base := w.heap.size) hgrow (fun g h => (HV.out g h).1)); clear hown' hgrow hnil)
        have o3 : Out 0 0 wr (wr.alloc (.cells #[.int .i64 (a : Int), .int .i64 b1, .int .i64 b2, .int .i64 b3, .int .i64 b4] 92)) := (Out.refl 0 0 wr).alloc _
        refine ⟨⟨a + 1, v', rfl, by congr 1, by omega, ?_, out_far (HO.out.trans o3) HO4.out (.inl (Nat.le_refl _))⟩, by simp [intOf] <;> omega⟩
        unfold BListIs
        rw [HN.out, bks_append, List.length_append, HMX.out.1, HMX.out.2]
        exact HP4.out
    · have e : a = M := by omega
      subst e
      go_wp2
      go_ret
      exact ⟨u3, rfl, HL.out, HO.out⟩
end
end Go.Proofs.YtjbbkeoolodeaaaGreatDoor
