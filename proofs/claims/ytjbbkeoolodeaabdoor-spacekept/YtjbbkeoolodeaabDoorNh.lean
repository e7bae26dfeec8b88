import Derived.Test.YtjbbkeoolodeaabDoorMj
import Derived.Test.YtjbbkeoolodeaabDoorMg
import Derived.Test.YtjbbkeoolodeaabDoorMh
namespace Go.Proofs.YtjbbkeoolodeaabDoor
open Go.RowKit
attribute [local go_sem] Oper.semAt_some
set_option linter.unusedVariables false
set_option linter.unusedSimpArgs false

/-- the header of the object at k is not its header -/
def hdBad (r : Raw) (k : Nat) : Bool := r.P k && (match r.M (k : Int) with | some b => !(r.W k == makeV k b.1 b.2.1) | none => false)
theorem results_cell {fn : Func} {p : Tmp} {ty : TypeId} (h : fn.results = #[.cell p ty]) (tmps : Array Value) (P : Program) (w : World) :
    (results fn tmps).run P w = ((asAddr (tmps.getD p undef)).run P w).andThen fun ad w1 => ((loadVar ty ad).run P w1) := by
  unfold results
  simp [h, Sem.run_bind, Result.andThen]
theorem load_int {W : World} {g : Nat} {v : Int} (hx : Box W g 3 (.int .i64 v)) : (loadVar 3 ⟨g, 0, none⟩).run Tryd.prog W = .ok (.int .i64 v) W := by
  have c0 := hx.cell
  go_simp
section
variable {w : World} {lo hi n cap : Nat} {s : Nat → Nat} {r : Raw}
set_option maxRecDepth 100000 in
set_option maxHeartbeats 4000000 in
theorem wrongHeader_any (h : RawAt w lo hi s n cap r) (hT : Told r) :
    Calls Tryd.prog 36 #[.pointer (some ⟨s 14, 0, none⟩)] w fun e w' => e = .returned (.int .i64 (nxr (hdBad r) (64 * n) 0)) ∧ Out 0 0 w w' := by
  have HR0 := hid_mk h
  have HTo := hid_mk hT
  have HT : Hid (hi ≤ w.heap.size ∧ 4 ≤ w.heap.size ∧ 4 ≤ lo ∧ n ≤ 4096 ∧ 1 ≤ n) := ⟨h.top, h.tab.lt, h.glob, h.n2, h.n1⟩
  have HL := hid_mk (fun w => spAll_any (s 14) w)
  clear h hT
  refine (callsIn_wide (n := 0)).1 ?_
  refine callsIn_of_wp_marks Tryd.func36 rfl trivial ?_ rfl
  simp only [Tryd.ntmps36, List.size_toArray, List.length_cons, List.length_nil, Nat.reduceAdd, Nat.reduceSub, Array.replicate_succ, Array.replicate_zero, List.push_toArray, List.append_toArray, List.nil_append, List.cons_append]
  gi_wp2_with (refine ⟨trivial, rfl, ?_⟩; gi_at_call 31; refine (callsIn_wide.2 (HL.out _)).mono ?_; rintro e w1 ⟨rfl, rfl⟩)
  obtain ⟨W1, hW1⟩ : ∃ W1, ((w.alloc (.cells #[.pointer (some ⟨s 14, 0, none⟩)] 30)).alloc (.cells #[.int .i64 0] 3)).alloc (.cells #[.pointer (some ⟨s 14, 0, none⟩)] 30) = W1 := ⟨_, rfl⟩
  obtain ⟨G, hG⟩ : ∃ G, w.heap.size = G := ⟨_, rfl⟩
  have hs1 : W1.heap.size = G + 3 := by rw [← hW1, ← hG]; simp
  have ho1 : Out 0 0 w W1 := by rw [← hW1]; exact ((((Out.refl 0 0 w).alloc _).alloc _).alloc _)
  have hy1 : Box W1 G 30 (.pointer (some ⟨s 14, 0, none⟩)) := by rw [← hW1, ← hG]; exact Box.alloc (w := (w.alloc (.cells #[.pointer (some ⟨s 14, 0, none⟩)] 30)).alloc (.cells #[.int .i64 0] 3)) two_first _
  have hx1 : Box W1 (G + 1) 3 (.int .i64 0) := by rw [← hW1, ← hG]; exact Box.alloc (w := (w.alloc (.cells #[.pointer (some ⟨s 14, 0, none⟩)] 30)).alloc (.cells #[.int .i64 0] 3)) (heap_alloc2_new _ _ _) _
  have hz1 : Box W1 (G + 1 + 1) 30 (.pointer (some ⟨s 14, 0, none⟩)) := by
    rw [← hW1, ← hG]
    have := heap_alloc_new ((w.alloc (.cells #[.pointer (some ⟨s 14, 0, none⟩)] 30)).alloc (.cells #[.int .i64 0] 3)) (.cells #[.pointer (some ⟨s 14, 0, none⟩)] 30)
    rw [World.size_alloc, World.size_alloc] at this
    exact this
  rw [hW1, hG]
  rw [hG] at HT
  have HGw := hid_mk hG
  have HO1 := hid_mk ho1
  have HY1 := hid_mk hy1
  have HX1 := hid_mk hx1
  have HZ1 := hid_mk hz1
  clear hW1 ho1 hx1 hz1 hy1 hG
  refine overAll (lo := lo) (hi := hi) (n := n) (cap := cap) (g := G + 1 + 1) (s := s) rfl rfl
    (fun p W => p ≤ 64 * n ∧ RawAt W lo hi s n cap r ∧ (∀ j, j < p → hdBad r j = false) ∧ Box W G 30 (.pointer (some ⟨s 14, 0, none⟩)) ∧ Box W (G + 1) 3 (.int .i64 0) ∧ Box W (G + 1 + 1) 30 (.pointer (some ⟨s 14, 0, none⟩)) ∧ Out 0 0 w W)
    (fun W => (∀ j, j < 64 * n → hdBad r j = false) ∧ Box W (G + 1) 3 (.int .i64 0) ∧ Out 0 0 w W)
    (fun c W => c = .ret ∧ Box W (G + 1) 3 (.int .i64 (nxr (hdBad r) (64 * n) 0)) ∧ Out 0 0 w W) ?hm1 ?hq1 ?hqk1 ?hqx1 ?hy1 ?he1 ?hz1 ?hdone1 ?hstop1
  case hm1 =>
    rintro p W ⟨hp, a1, a2, a3, a4, a5, a6⟩
    exact ⟨hp, _, a1, HTo.out, a5⟩
  case hq1 =>
    rintro p W W' x y ⟨hp, a1, a2, a3, a4, a5, a6⟩ o hx
    have hT := HT.out
    have hgw := HGw.out
    exact ⟨hp, a1.kept o (by omega) (by omega), a2, a3.kept o (by omega), a4.kept o (by omega), a5.kept o (by omega), out_far a6 o (by omega)⟩
  case hqk1 =>
    rintro W W' x y ⟨a1, a2, a3⟩ o hx
    have hT := HT.out
    have hgw := HGw.out
    exact ⟨a1, a2.kept o (by omega), out_far a3 o (by omega)⟩
  case hqx1 =>
    rintro c W W' x y ⟨a1, a2, a3⟩ o hx
    have hT := HT.out
    have hgw := HGw.out
    exact ⟨a1, a2.kept o (by omega), out_far a3 o (by omega)⟩
  case hz1 => exact ⟨Nat.zero_le _, HR0.out.quiet HO1.out, fun j h => absurd h (by omega), HY1.out, HX1.out, HZ1.out, HO1.out⟩
  case he1 =>
    rintro p W rr ⟨hp, a1, a2, a3, a4, a5, a6⟩ hr hk
    obtain ⟨eP, eM⟩ := raw_one a1 hr
    rw [← eP] at hk
    rcases nxr_cases r.P (64 * n) p with ⟨_, hz⟩ | ⟨i, hi', _⟩
    · refine ⟨fun j hj => ?_, a4, a6⟩
      by_cases e : j < p
      · exact a2 j e
      · unfold hdBad; rw [hz j (by omega) hj]; rfl
    · have : (-1 : Int) = i := hk.symm.trans hi'
      omega
  case hy1 =>
    rintro p W rr k b ⟨hp, a1, a2, a3, a4, a5, a6⟩ hr hk hb hsz
    obtain ⟨eP, eM⟩ := raw_one a1 hr
    rw [← eP] at hk
    rw [← eM] at hb
    obtain ⟨hpk, hkn, hPk, hz⟩ : p ≤ k ∧ k < 64 * n ∧ r.P k = true ∧ ∀ j, p ≤ j → j < k → r.P j = false := by
      rcases nxr_cases r.P (64 * n) p with ⟨e1, _⟩ | ⟨i, e1, e2, e3, e4, e5⟩
      · have : (-1 : Int) = k := e1.symm.trans hk
        omega
      · have : i = k := by have : (i : Int) = k := e1.symm.trans hk; omega
        subst this
        exact ⟨e3 hp, e2, e4, e5⟩
    rw [hs1] at hsz ⊢
    have hbef : ∀ j, j < k → hdBad r j = false := fun j hj => by
      by_cases e : j < p
      · exact a2 j e
      · unfold hdBad; rw [hz j (by omega) hj]; rfl
    obtain ⟨b1, b2, b3, b4⟩ := b
    have hbk : hdBad r k = !(r.W k == makeV k b1 b2) := by unfold hdBad; rw [hPk, hb]; rfl
    have A := hid_mk (And.intro a1 (And.intro a3 (And.intro a4 (And.intro a5 a6))))
    have HK := hid_mk (And.intro hkn hsz)
    have HBf := hid_mk hbef
    have HBk := hid_mk hbk
    clear a1 a2 a3 a4 a5 a6 hr hk hb eP eM hz hPk hp hpk hkn hsz hbef hbk
    unfold blkV
    dsimp only at A ⊢
    obtain ⟨WA, hWA⟩ : ∃ WA, W.alloc (bo (k : Int) b1 b2 b3 b4) = WA := ⟨_, rfl⟩
    have HBA : Hid (WA.heap[W.heap.size]? = some (bo (k : Int) b1 b2 b3 b4)) := by rw [← hWA]; exact heap_alloc_new _ _
    have HOA : Hid (Out 0 0 W WA) := by rw [← hWA]; exact (Out.refl 0 0 W).alloc _
    obtain ⟨H, hH⟩ : ∃ H, W.heap.size = H := ⟨_, rfl⟩
    rw [hH] at HK HBA
    unfold bo at hWA HBA
    gi_wp2
    (try rw [hWA])
    refine ⟨HOA.out.any _ _, ?_⟩
    (try rw [hH])
    clear hWA hH
    intro W2 o2
    have hT := HT.out
    have hkk := HK.out
    have hgw := HGw.out
    have HR2 := hid_mk ((A.out.1.quiet HOA.out).kept o2 (.inl (by omega)) (.inl (by omega)))
    have HY2 := hid_mk ((A.out.2.1.kept HOA.out (.inr (Nat.zero_le _))).kept o2 (.inl (by omega)))
    have HX2 := hid_mk ((A.out.2.2.1.kept HOA.out (.inr (Nat.zero_le _))).kept o2 (.inl (by omega)))
    have HZ2 := hid_mk ((A.out.2.2.2.1.kept HOA.out (.inr (Nat.zero_le _))).kept o2 (.inl (by omega)))
    have HB2 := hid_mk (o2.heap HBA.out (.inr (by omega)))
    have HO2 := hid_mk (out_far (A.out.2.2.2.2.trans HOA.out) o2 (.inl (by omega)))
    have c0 := HY2.out.cell
    obtain ⟨q0, q1, q2, q3, q4⟩ := bo_facts HB2.out
    have HHd := hid_mk (headed_any HR2.out (a := k) hkk.1 b1 b2 b3 b4)
    rw [show (r.W k == makeV (k : Int) b1 b2) = !(hdBad r k) from by rw [HBk.out, Bool.not_not]] at HHd
    clear o2 hT hkk hgw A
    cases hbad : hdBad r k with
    | false =>
      rw [hbad] at HHd
      have HBd := hid_mk hbad
      clear hbad
      gi_wp2_with (refine ⟨trivial, rfl, ?_⟩; gi_at_call 44; refine (callsIn_wide.2 HHd.out).mono ?_; rintro e w3 ⟨rfl, ho3⟩)
      refine ⟨ho3.any _ _, by have := HK.out; omega, HR2.out.quiet ho3, fun j hj => ?_, HY2.out.kept ho3 (.inr (Nat.zero_le _)), HX2.out.kept ho3 (.inr (Nat.zero_le _)), HZ2.out.kept ho3 (.inr (Nat.zero_le _)), out_far HO2.out ho3 (.inr rfl)⟩
      by_cases e : j = k
      · rw [e]; exact HBd.out
      · exact HBf.out j (by omega)
    | true =>
      rw [hbad] at HHd
      have HBd := hid_mk hbad
      clear hbad
      gi_wp2_with (refine ⟨trivial, rfl, ?_⟩; gi_at_call 44; refine (callsIn_wide.2 HHd.out).mono ?_; rintro e w3 ⟨rfl, ho3⟩; have HO3 := hid_mk ho3; have hx3 := HX2.out.kept ho3 (.inr (Nat.zero_le _)); have HX3 := hid_mk hx3; have e0 := hx3.cell; have e1 := hx3.frozen; clear q0 q1 q2 q3 q4; obtain ⟨q0, q1, q2, q3, q4⟩ := bo_facts (ho3.heap HB2.out (.inr (Nat.zero_le _))); clear ho3 hx3)
      have hset := (Out.refl (G + 1) (G + 2) w3).setCell (p := ⟨G + 1, 0, none⟩) (.inl ⟨Nat.le_refl _, Nat.lt_succ_self _⟩) (.int .i64 (k : Int))
      have hbx := HX3.out.set (.int .i64 (k : Int))
      have hgw := HGw.out
      have hnx : nxr (hdBad r) (64 * n) 0 = (k : Int) := nxr_of HK.out.1 (Nat.zero_le _) HBd.out (fun j _ hj => HBf.out j hj)
      exact ⟨(HO3.out.any 0 (G + 3)).trans (hset.wide (Nat.zero_le _) (by omega)), rfl, by rw [hnx]; exact hbx, out_far (out_far HO2.out HO3.out (.inr rfl)) hset (.inl (by omega))⟩
  case hstop1 =>
    rintro c W ⟨rfl, a2, a3⟩ hd
    rw [hs1] at hd ⊢
    have HD := hid_mk hd
    have HX := hid_mk a2
    have HO := hid_mk a3
    clear a2 a3 hd
    gi_wp2
    have hgw := HGw.out
    have hT := HT.out
    refine ⟨by simp, .inl ⟨_, _, rfl, run_takeDeferred HD.out, ?_⟩⟩
    have hx := HX.out.kept (out_putObj W (G + 3) (.deferred none)) (.inl (by omega))
    refine ⟨_, (results_cell rfl _ _ _).trans ?_, rfl, out_far HO.out (out_putObj _ _ _) (by omega)⟩
    exact load_int hx
  case hdone1 =>
    rintro W ⟨a1, a2, a3⟩ hd
    rw [hs1] at hd ⊢
    have HD := hid_mk hd
    have HX := hid_mk a2
    have HO := hid_mk a3
    have HN := hid_mk a1
    have c0 := a2.cell
    have c1 := a2.frozen
    clear a1 a2 a3 hd
    gi_wp2
    have hgw := HGw.out
    have hT := HT.out
    have hset := (Out.refl (G + 1) (G + 2) W).setCell (p := ⟨G + 1, 0, none⟩) (.inl ⟨Nat.le_refl _, Nat.lt_succ_self _⟩) (.int .i64 (-1))
    refine ⟨by simp, .inl ⟨_, _, rfl, run_takeDeferred (hset.heap HD.out (by omega)), ?_⟩⟩
    have hx := (HX.out.set (.int .i64 (-1))).kept (out_putObj _ (G + 3) (.deferred none)) (.inl (by omega))
    refine ⟨.int .i64 (-1), (results_cell rfl _ _ _).trans ?rs, ?_, out_far (out_far HO.out hset (by omega)) (out_putObj _ _ _) (by omega)⟩
    case rs => exact load_int hx
    rcases nxr_cases (hdBad r) (64 * n) 0 with ⟨e1, _⟩ | ⟨i, e1, e2, e3, e4, e5⟩
    · rw [e1]
    · rw [HN.out i e2] at e4; cases e4
end
end Go.Proofs.YtjbbkeoolodeaabDoor
namespace Go.Proofs.YtjbbkeoolodeaabDoor
open Go.RowKit
attribute [local go_sem] Oper.semAt_some
set_option linter.unusedVariables false
set_option linter.unusedSimpArgs false

/-- the link of the class's free block at k is not its link -/
def lkBad (n : Nat) (r : Raw) (c k : Nat) : Bool := r.F c k && !(r.W k == linkV (nxr (r.F c) (64 * n) (k + 1)))
set_option maxRecDepth 100000 in
set_option maxHeartbeats 4000000 in
theorem wrongLink_any {w : World} {lo hi n cap : Nat} {s : Nat → Nat} {r : Raw} (h : RawAt w lo hi s n cap r) {c : Nat} (hc : c < 8) :
    Calls Tryd.prog 37 #[.pointer (some ⟨s 14, 0, none⟩), .int .i64 (c : Int)] w fun e w' => e = .returned (.int .i64 (nxr (lkBad n r c) (64 * n) 0)) ∧ Out 0 0 w w' := by
  have HR0 := hid_mk h
  have HC := hid_mk hc
  have HT : Hid (hi ≤ w.heap.size ∧ 4 ≤ w.heap.size ∧ 4 ≤ lo ∧ n ≤ 4096) := ⟨h.top, h.tab.lt, h.glob, h.n2⟩
  have HL := hid_mk (fun w => links_any (s 14) (c : Int) w)
  clear h hc
  refine (callsIn_wide (n := 0)).1 ?_
  refine callsIn_of_wp_marks Tryd.func37 rfl trivial ?_ rfl
  simp only [Tryd.ntmps37, List.size_toArray, List.length_cons, List.length_nil, Nat.reduceAdd, Nat.reduceSub, Array.replicate_succ, Array.replicate_zero, List.push_toArray, List.append_toArray, List.nil_append, List.cons_append]
  gi_wp2_with (refine ⟨trivial, rfl, ?_⟩; gi_at_call 55; refine (callsIn_wide.2 (HL.out _)).mono ?_; rintro e w1 ⟨rfl, rfl⟩)
  obtain ⟨W1, hW1⟩ : ∃ W1, (((w.alloc (.cells #[.pointer (some ⟨s 14, 0, none⟩)] 30)).alloc (.cells #[.int .i64 0] 3)).alloc (.cells #[.pointer (some ⟨s 14, 0, none⟩)] 30)).alloc (.cells #[.int .i64 (c : Int)] 3) = W1 := ⟨_, rfl⟩
  obtain ⟨G, hG⟩ : ∃ G, w.heap.size = G := ⟨_, rfl⟩
  have hs1 : W1.heap.size = G + 4 := by rw [← hW1, ← hG]; simp
  have ho1 : Out 0 0 w W1 := by rw [← hW1]; exact (((((Out.refl 0 0 w).alloc _).alloc _).alloc _).alloc _)
  have hy1 : Box W1 G 30 (.pointer (some ⟨s 14, 0, none⟩)) := by
    rw [← hW1, ← hG]; exact Box.alloc (Box.alloc (w := (w.alloc (.cells #[.pointer (some ⟨s 14, 0, none⟩)] 30)).alloc (.cells #[.int .i64 0] 3)) two_first _) _
  have hr1 : Box W1 (G + 1) 3 (.int .i64 0) := by
    rw [← hW1, ← hG]; exact Box.alloc (Box.alloc (w := (w.alloc (.cells #[.pointer (some ⟨s 14, 0, none⟩)] 30)).alloc (.cells #[.int .i64 0] 3)) (heap_alloc2_new _ _ _) _) _
  have hx1 : Box W1 (G + 1 + 1) 30 (.pointer (some ⟨s 14, 0, none⟩)) := by
    have := heap_alloc_new ((w.alloc (.cells #[.pointer (some ⟨s 14, 0, none⟩)] 30)).alloc (.cells #[.int .i64 0] 3)) (.cells #[.pointer (some ⟨s 14, 0, none⟩)] 30)
    rw [World.size_alloc, World.size_alloc] at this
    rw [← hW1, ← hG]
    exact Box.alloc (w := ((w.alloc (.cells #[.pointer (some ⟨s 14, 0, none⟩)] 30)).alloc (.cells #[.int .i64 0] 3)).alloc (.cells #[.pointer (some ⟨s 14, 0, none⟩)] 30)) this _
  have hz1 : Box W1 (G + 1 + 1 + 1) 3 (.int .i64 (c : Int)) := by
    have := heap_alloc_new (((w.alloc (.cells #[.pointer (some ⟨s 14, 0, none⟩)] 30)).alloc (.cells #[.int .i64 0] 3)).alloc (.cells #[.pointer (some ⟨s 14, 0, none⟩)] 30)) (.cells #[.int .i64 (c : Int)] 3)
    rw [World.size_alloc, World.size_alloc, World.size_alloc] at this
    rw [← hW1, ← hG]
    exact this
  rw [hW1, hG]
  rw [hG] at HT
  have HGw := hid_mk hG
  have HO1 := hid_mk ho1
  have HY1 := hid_mk hy1
  have HX1 := hid_mk hx1
  have HZ1 := hid_mk hz1
  have HR1 := hid_mk hr1
  clear hW1 ho1 hy1 hx1 hz1 hr1 hG
  refine range_any (gf := 75) (lb := #[.pointer (some ⟨G + 1 + 1, 0, none⟩), .pointer (some ⟨G + 1 + 1 + 1, 0, none⟩)]) rfl (enters_of Tryd.func75 (by kernel_rfl) rfl)
    (fun W => (∀ j, j < 64 * n → lkBad n r c j = false) ∧ Box W (G + 1) 3 (.int .i64 0) ∧ Out 0 0 w W) (fun c' W => c' = .ret ∧ Box W (G + 1) 3 (.int .i64 (nxr (lkBad n r c) (64 * n) 0)) ∧ Out 0 0 w W) ?H ?done ?stop
  case H =>
    intro rec hrec W2 hW2
    rw [hs1]
    have HR := hid_mk hrec
    have ho2 : Out 0 0 W1 W2 := by rw [hW2]; exact ((Out.refl 0 0 W1).alloc _).alloc _
    have hs2 : W2.heap.size = G + 6 := by rw [hW2]; simp [hs1]
    have hd2 : W2.heap[G + 4]? = some (.deferred (some [])) := by rw [hW2, ← hs1]; exact two_first
    have hl2 : W2.heap[G + 4 + 1]? = some (.loop (rec .ready none)) := by rw [hW2, ← hs1]; exact heap_alloc2_new _ _ _
    refine (links_yield (lo := lo) (hi := hi) (n := n) (cap := cap) (s := s) (S := r.F c) (c := c) (g := G + 1 + 1) (gc := G + 1 + 1 + 1) (l := G + 4 + 1) HC.out
      (fun p W => RawAt W lo hi s n cap r ∧ (∀ j, j < p → lkBad n r c j = false) ∧ Box W G 30 (.pointer (some ⟨s 14, 0, none⟩)) ∧ Box W (G + 1) 3 (.int .i64 0) ∧ Box W (G + 1 + 1) 30 (.pointer (some ⟨s 14, 0, none⟩)) ∧ Box W (G + 1 + 1 + 1) 3 (.int .i64 (c : Int)) ∧ W.heap[G + 4]? = some (.deferred (some [])) ∧ W.heap[G + 4 + 1]? = some (.loop (rec .ready none)) ∧ Out 0 0 w W)
      (fun W => (∀ j, j < 64 * n → lkBad n r c j = false) ∧ Box W (G + 1) 3 (.int .i64 0) ∧ W.heap[G + 4]? = some (.deferred (some [])) ∧ W.heap[G + 4 + 1]? = some (.loop (rec .ready none)) ∧ Out 0 0 w W)
      (fun W => Box W (G + 1) 3 (.int .i64 (nxr (lkBad n r c) (64 * n) 0)) ∧ W.heap[G + 4]? = some (.deferred (some [])) ∧ W.heap[G + 4 + 1]? = some (.loop (rec .done (some .ret))) ∧ Out 0 0 w W) (w := W2) ?hm1 ?hq1 ?hs1 ?hqj1 ?hqx1 ?hy1 ?he1 ?hz1).mono ?_
    case hm1 =>
      rintro p W ⟨a1, a2, a3, a4, a5, a6, a7, a8, a9⟩
      exact ⟨_, a1, rfl, a5, a6⟩
    case hq1 =>
      rintro p W W' x y ⟨a1, a2, a3, a4, a5, a6, a7, a8, a9⟩ o hx
      have hT := HT.out
      have hgw := HGw.out
      exact ⟨a1.kept o (by omega) (by omega), a2, a3.kept o (by omega), a4.kept o (by omega), a5.kept o (by omega), a6.kept o (by omega), o.heap a7 (by omega), o.heap a8 (by omega), out_far a9 o (by omega)⟩
    case hs1 =>
      rintro p q W ⟨a1, a2, a3⟩ hpq hz
      refine ⟨a1, fun j hj => ?_, a3⟩
      by_cases e : j < p
      · exact a2 j e
      · unfold lkBad; rw [hz j (by omega) hj]; rfl
    case hqj1 =>
      rintro W W' x y ⟨a1, a2, a3, a4, a5⟩ o hx
      have hT := HT.out
      have hgw := HGw.out
      exact ⟨a1, a2.kept o (by omega), o.heap a3 (by omega), o.heap a4 (by omega), out_far a5 o (by omega)⟩
    case hqx1 =>
      rintro W W' x y ⟨a2, a3, a4, a5⟩ o hx
      have hT := HT.out
      have hgw := HGw.out
      exact ⟨a2.kept o (by omega), o.heap a3 (by omega), o.heap a4 (by omega), out_far a5 o (by omega)⟩
    case he1 =>
      rintro p W ⟨a1, a2, a3, a4, a5, a6, a7, a8, a9⟩ hz
      refine ⟨fun j hj => ?_, a4, a7, a8, a9⟩
      by_cases e : j < p
      · exact a2 j e
      · unfold lkBad; rw [hz j (by omega) hj]; rfl
    case hz1 =>
      exact ⟨HR0.out.quiet (HO1.out.trans ho2), fun j h => absurd h (by omega), HY1.out.kept ho2 (.inr (Nat.zero_le _)), HR1.out.kept ho2 (.inr (Nat.zero_le _)), HX1.out.kept ho2 (.inr (Nat.zero_le _)), HZ1.out.kept ho2 (.inr (Nat.zero_le _)), hd2, hl2, (HO1.out.trans ho2)⟩
    case hy1 =>
      rintro a W ⟨a1, a2, a3, a4, a5, a6, a7, a8, a9⟩ hSa haN
      have A := hid_mk (And.intro a1 (And.intro a3 (And.intro a4 (And.intro a5 (And.intro a6 (And.intro a7 a9))))))
      have HBf := hid_mk a2
      have HBk : Hid (lkBad n r c a = !(r.W a == linkV (nxr (r.F c) (64 * n) (a + 1)))) := by show _ = _; unfold lkBad; rw [hSa]; rfl
      have HaN := hid_mk haN
      have HL5 := hid_mk a8
      have k0 : (0 : Int) ≤ (a : Int) := by omega
      have k1 : (a : Int) < ((64 * n : Nat) : Int) := by omega
      have k2 : ((64 * n : Nat) : Int) ≤ 262144 := by have := HT.out; omega
      have k3 : (a : Int) < 64 * (n : Int) := by omega
      refine round_any HR.out a8 rfl ?_
      clear a1 a2 a3 a4 a5 a6 a7 a8 a9 hSa haN
      gi_wp2
      refine ⟨HL5.out, ?_⟩
      intro W3 ho3 hl3
      have hT := HT.out
      have hgw := HGw.out
      have hr3 := A.out.1.kept ho3 (.inl (by omega)) (.inl (by omega))
      have hy3 := A.out.2.1.kept ho3 (.inl (by omega))
      have hx3 := A.out.2.2.1.kept ho3 (.inl (by omega))
      have HX3 := hid_mk (And.intro hx3 (And.intro (A.out.2.2.2.1.kept ho3 (.inl (by omega))) (And.intro (A.out.2.2.2.2.1.kept ho3 (.inl (by omega))) (And.intro (ho3.heap A.out.2.2.2.2.2.1 (by omega)) (out_far A.out.2.2.2.2.2.2 ho3 (.inl (by omega)))))))
      have HO3 := hid_mk ho3
      have HL3 := hid_mk hl3
      have HR3 := hid_mk hr3
      have HY3 := hid_mk hy3
      have c0 := hy3.cell
      have c1 := hr3.cells.1
      have d0 := hr3.words.cell HaN.out
      have e0 := hx3.cell
      have e1 := hx3.frozen
      clear ho3 hl3 hr3 hy3 hx3 hT hgw A
      gi_wp2_with fail
      refine region_roundN (S := fun w' => w'.cell? ⟨G, 0, none⟩ = some (.pointer (some ⟨s 14, 0, none⟩)) ∧ w'.cell? ⟨s 14, 0, none⟩ = some (.slice (some ⟨s 11, 0, none⟩) (64 * n) cap) ∧ w'.cell? ⟨s 11, a, none⟩ = some (.int .i64 (r.W a))) (by kernel_rfl) (by kernel_rfl) ?hS1 (fun hHeld => ?rest1)
      case hS1 => exact ⟨c0, c1, d0⟩
      refine wpAnyH_take (i := 0) (v := ?v2) rfl (by kernel_rfl) (by kernel_rfl) (by kernel_rfl) (fun _ _ _ h => h) (Or.inl ⟨by rfl, ?hy2⟩) (by assumption) ?rest2
      case hy2 => (intro w hSw; (try dsimp only at hSw); simp only [List.getElem_toArray, List.getElem_cons_zero, List.getElem_cons_succ]; go_simp; (try with_reducible rfl))
      (try simp only [Act.put, List.getElem_toArray, List.getElem_cons_zero, List.getElem_cons_succ, List.setIfInBounds_toArray, List.set_cons_zero, List.set_cons_succ])
      refine wpAnyH_take (i := 1) (v := ?v3) rfl (by kernel_rfl) (by kernel_rfl) (by kernel_rfl) (fun _ _ _ h => h) (Or.inl ⟨by rfl, ?hy3⟩) (by assumption) ?rest3
      case hy3 => (intro w hSw; (try dsimp only at hSw); simp only [List.getElem_toArray, List.getElem_cons_zero, List.getElem_cons_succ]; go_simp; (try with_reducible rfl))
      (try simp only [Act.put, List.getElem_toArray, List.getElem_cons_zero, List.getElem_cons_succ, List.setIfInBounds_toArray, List.set_cons_zero, List.set_cons_succ])
      refine wpAnyH_take (i := 2) (v := ?v4) rfl (by kernel_rfl) (by kernel_rfl) (by kernel_rfl) (fun _ _ _ h => h) (Or.inl ⟨by rfl, ?hy4⟩) (by assumption) ?rest4
      case hy4 => (intro w hSw; (try dsimp only at hSw); simp only [List.getElem_toArray, List.getElem_cons_zero, List.getElem_cons_succ]; go_simp; (try with_reducible rfl))
      (try simp only [Act.put, List.getElem_toArray, List.getElem_cons_zero, List.getElem_cons_succ, List.setIfInBounds_toArray, List.set_cons_zero, List.set_cons_succ])
      refine wpAnyH_take (i := 3) (v := ?v5) rfl (by kernel_rfl) (by kernel_rfl) (by kernel_rfl) (fun _ _ _ h => h) (Or.inl ⟨by rfl, ?hy5⟩) (by assumption) ?rest5
      case hy5 => (intro w hSw; (try dsimp only at hSw); simp only [List.getElem_toArray, List.getElem_cons_zero, List.getElem_cons_succ]; go_simp; (try with_reducible rfl))
      (try simp only [Act.put, List.getElem_toArray, List.getElem_cons_zero, List.getElem_cons_succ, List.setIfInBounds_toArray, List.set_cons_zero, List.set_cons_succ])
      refine wpAnyH_take (i := 4) (v := ?v6) rfl (by kernel_rfl) (by kernel_rfl) (by kernel_rfl) (fun _ _ _ h => h) (Or.inl ⟨by rfl, ?hy6⟩) (by assumption) ?rest6
      case hy6 => (intro w hSw; (try dsimp only at hSw); simp only [List.getElem_toArray, List.getElem_cons_zero, List.getElem_cons_succ]; go_simp; (try with_reducible rfl))
      (try simp only [Act.put, List.getElem_toArray, List.getElem_cons_zero, List.getElem_cons_succ, List.setIfInBounds_toArray, List.set_cons_zero, List.set_cons_succ])
      refine wpAnyH_take (i := 5) (v := ?v7) rfl (by kernel_rfl) (by kernel_rfl) (by kernel_rfl) (fun _ _ _ h => h) (Or.inl ⟨by rfl, ?hy7⟩) (by assumption) ?rest7
      case hy7 => (intro w hSw; (try dsimp only at hSw); simp only [List.getElem_toArray, List.getElem_cons_zero, List.getElem_cons_succ]; go_simp; (try with_reducible rfl))
      (try simp only [Act.put, List.getElem_toArray, List.getElem_cons_zero, List.getElem_cons_succ, List.setIfInBounds_toArray, List.set_cons_zero, List.set_cons_succ])
      refine wpAnyH_take (i := 6) (v := ?v8) rfl (by kernel_rfl) (by kernel_rfl) (by kernel_rfl) (fun _ _ _ h => h) (Or.inl ⟨by rfl, ?hy8⟩) (by assumption) ?rest8
      case hy8 => (intro w hSw; (try dsimp only at hSw); simp only [List.getElem_toArray, List.getElem_cons_zero, List.getElem_cons_succ]; go_simp; (try with_reducible rfl))
      (try simp only [Act.put, List.getElem_toArray, List.getElem_cons_zero, List.getElem_cons_succ, List.setIfInBounds_toArray, List.set_cons_zero, List.set_cons_succ])
      refine wpAnyH_take (i := 7) (v := ?v9) rfl (by kernel_rfl) (by kernel_rfl) (by kernel_rfl) (fun _ _ _ h => h) (Or.inl ⟨by rfl, ?hy9⟩) (by assumption) ?rest9
      case hy9 => (intro w hSw; (try dsimp only at hSw); simp only [List.getElem_toArray, List.getElem_cons_zero, List.getElem_cons_succ]; go_simp; (try with_reducible rfl))
      (try simp only [Act.put, List.getElem_toArray, List.getElem_cons_zero, List.getElem_cons_succ, List.setIfInBounds_toArray, List.set_cons_zero, List.set_cons_succ])
      refine wpAnyH_ready (rs := [8]) (by kernel_rfl) (by simp) ?_
      refine AllReadyH.cons rfl (fun KK hK => ?_) AllReadyH.nil
      simp only [List.getElem_toArray, List.getElem_cons_zero, List.getElem_cons_succ]
      go_simp
      refine (link_at (nxr (r.F c) (64 * n) (a + 1)) _).mono ?_
      rintro e w5 ⟨rfl, rfl⟩
      refine hK.out _ _ ?hS10 (fun hHeld2 => ?rest10)
      case hS10 => exact hHeld
      clear hK KK
      (try clear hHeld)
      have hHeld := hHeld2
      clear hHeld2
      (try simp only [Act.put, List.getElem_toArray, List.getElem_cons_zero, List.getElem_cons_succ, List.setIfInBounds_toArray, List.set_cons_zero, List.set_cons_succ])
      refine wpAnyH_take (i := 9) (v := ?v11) rfl (by kernel_rfl) (by kernel_rfl) (by kernel_rfl) (fun _ _ _ h => h) (Or.inl ⟨by rfl, ?hy11⟩) (by assumption) ?rest11
      case hy11 => (intro w hSw; (try dsimp only at hSw); simp only [List.getElem_toArray, List.getElem_cons_zero, List.getElem_cons_succ]; go_simp; (try with_reducible rfl))
      (try simp only [Act.put, List.getElem_toArray, List.getElem_cons_zero, List.getElem_cons_succ, List.setIfInBounds_toArray, List.set_cons_zero, List.set_cons_succ])
      refine wpAnyH_done (by kernel_rfl) ?_ _
      clear hHeld
      simp only [noOut, onlyN]
      have HD3 : Hid (Out 0 0 W3 W3.drew) := (Out.refl 0 0 W3).drew
      generalize W3.drew = W4 at HD3 ⊢
      rw [show (r.W a != linkV (nxr (r.F c) (64 * n) (a + 1))) = lkBad n r c a from HBk.out.symm]
      have hx4 := HX3.out.1.kept HD3.out (.inr (Nat.zero_le _))
      have e0 := hx4.cell
      have e1 := hx4.frozen
      have HX4 := hid_mk hx4
      clear hx4
      cases hbad : lkBad n r c a with
      | false =>
        have HBd := hid_mk hbad
        clear hbad
        gi_wp2
        have hT := HT.out
        have hgw := HGw.out
        have hd3 := HD3.out
        refine ⟨hd3.heap HL3.out (.inr (Nat.zero_le _)), ?_⟩
        intro W5 ho6 hl6
        have o3 := HO3.out
        obtain ⟨f1, f2, f3, f4, f5⟩ := HX3.out
        have o36 : Out 0 W2.heap.size W W5 := by rw [hs2]; exact ((o3.wide (Nat.zero_le _) (by omega)).trans (hd3.any _ _)).trans (ho6.wide (Nat.zero_le _) (by omega))
        refine ⟨o36, .inl ⟨rfl, (HR3.out.quiet hd3).kept ho6 (by omega) (by omega), fun j hj => ?_, (HY3.out.kept hd3 (.inr (Nat.zero_le _))).kept ho6 (by omega), (f1.kept hd3 (.inr (Nat.zero_le _))).kept ho6 (by omega), (f2.kept hd3 (.inr (Nat.zero_le _))).kept ho6 (by omega), (f3.kept hd3 (.inr (Nat.zero_le _))).kept ho6 (by omega), ho6.heap (hd3.heap f4 (.inr (Nat.zero_le _))) (by omega), hl6, out_far (f5.trans hd3) ho6 (by omega)⟩⟩
        by_cases e : j = a
        · rw [e]; exact HBd.out
        · exact HBf.out j (by omega)
      | true =>
        have HBd := hid_mk hbad
        clear hbad
        gi_wp2
        have hT := HT.out
        have hgw := HGw.out
        have hd3 := HD3.out
        have hset := (Out.refl (G + 1) (G + 2) W4).setCell (p := ⟨G + 1, 0, none⟩) (.inl ⟨Nat.le_refl _, Nat.lt_succ_self _⟩) (.int .i64 (a : Int))
        have hbx := HX4.out.set (.int .i64 (a : Int))
        have hnx : nxr (lkBad n r c) (64 * n) 0 = (a : Int) := nxr_of HaN.out (Nat.zero_le _) HBd.out (fun j _ hj => HBf.out j hj)
        refine ⟨hset.heap (hd3.heap HL3.out (.inr (Nat.zero_le _))) (by omega), ?_⟩
        intro W5 ho6 hl6
        have o3 := HO3.out
        obtain ⟨f1, f2, f3, f4, f5⟩ := HX3.out
        have o36 : Out 0 W2.heap.size W W5 := by rw [hs2]; exact (((o3.wide (Nat.zero_le _) (by omega)).trans (hd3.any _ _)).trans (hset.wide (Nat.zero_le _) (by omega))).trans (ho6.wide (Nat.zero_le _) (by omega))
        exact ⟨o36, .inr ⟨rfl, by rw [hnx]; exact hbx.kept ho6 (by omega), ho6.heap (hset.heap (hd3.heap f4 (.inr (Nat.zero_le _))) (by omega)) (by omega), hl6, out_far (out_far (f5.trans hd3) hset (by omega)) ho6 (by omega)⟩⟩
    · rintro e W ⟨hv, ⟨a1, a2, a3, a4, a5⟩ | ⟨a2, a3, a4, a5⟩⟩
      · exact ⟨hv, a3, .inl ⟨⟨a1, a2, a5⟩, a4⟩⟩
      · exact ⟨hv, a3, .inr ⟨_, ⟨rfl, a2, a5⟩, a4⟩⟩
  case stop =>
    rintro c' W W' ⟨rfl, a2, a3⟩ ho hd
    rw [hs1] at ho hd ⊢
    have HD := hid_mk hd
    have hgw := HGw.out
    have hT := HT.out
    have HX := hid_mk (a2.kept ho (.inl (by omega)))
    have HO := hid_mk (out_far a3 ho (.inl (by omega)))
    clear a2 a3 hd ho hgw hT
    gi_wp2
    have hgw := HGw.out
    have hT := HT.out
    refine ⟨by simp, .inl ⟨_, _, rfl, run_takeDeferred HD.out, ?_⟩⟩
    have hx := HX.out.kept (out_putObj W' (G + 4) (.deferred none)) (.inl (by omega))
    refine ⟨_, (results_cell rfl _ _ _).trans ?_, rfl, out_far HO.out (out_putObj _ _ _) (by omega)⟩
    exact load_int hx
  case done =>
    rintro W W' ⟨a1, a2, a3⟩ ho hd
    rw [hs1] at ho hd ⊢
    have hgw := HGw.out
    have hT := HT.out
    have HD := hid_mk hd
    have hx' := a2.kept ho (.inl (by omega))
    have HX := hid_mk hx'
    have HO := hid_mk (out_far a3 ho (.inl (by omega)))
    have HN := hid_mk a1
    have c0 := hx'.cell
    have c1 := hx'.frozen
    clear a1 a2 a3 hd hx' ho hgw hT
    gi_wp2
    have hgw := HGw.out
    have hT := HT.out
    have hset := (Out.refl (G + 1) (G + 2) W').setCell (p := ⟨G + 1, 0, none⟩) (.inl ⟨Nat.le_refl _, Nat.lt_succ_self _⟩) (.int .i64 (-1))
    refine ⟨by simp, .inl ⟨_, _, rfl, run_takeDeferred (hset.heap HD.out (by omega)), ?_⟩⟩
    have hx := (HX.out.set (.int .i64 (-1))).kept (out_putObj _ (G + 4) (.deferred none)) (.inl (by omega))
    refine ⟨.int .i64 (-1), (results_cell rfl _ _ _).trans ?rs, ?_, out_far (out_far HO.out hset (by omega)) (out_putObj _ _ _) (by omega)⟩
    case rs => exact load_int hx
    rcases nxr_cases (lkBad n r c) (64 * n) 0 with ⟨e1, _⟩ | ⟨i, e1, e2, e3, e4, e5⟩
    · rw [e1]
    · rw [HN.out i e2] at e4; cases e4
end Go.Proofs.YtjbbkeoolodeaabDoor
namespace Go.Proofs.YtjbbkeoolodeaabDoor
open Go.RowKit
attribute [local go_sem] Oper.semAt_some
set_option linter.unusedVariables false
set_option linter.unusedSimpArgs false

/-- a wrong header, or a wrong link of a class below c -/
def wrTo (n : Nat) (r : Raw) : Nat → Nat → Bool
  | 0 => hdBad r
  | c + 1 => fun k => wrTo n r c k || lkBad n r c k
theorem nxr_or (A B : Nat → Bool) (N : Nat) : nxr (fun k => A k || B k) N 0 = if 0 ≤ nxr B N 0 ∧ (nxr A N 0 < 0 ∨ nxr B N 0 < nxr A N 0) then nxr B N 0 else nxr A N 0 := by
  rcases nxr_cases A N 0 with ⟨a1, a2⟩ | ⟨i, a1, a2, _, a4, a5⟩
  · rcases nxr_cases B N 0 with ⟨b1, b2⟩ | ⟨j, b1, b2, _, b4, b5⟩
    · rw [a1, b1, if_neg (by omega)]
      rcases nxr_cases (fun k => A k || B k) N 0 with ⟨c1, c2⟩ | ⟨k, c1, c2, _, c4, c5⟩
      · exact c1
      · simp only [a2 k (Nat.zero_le _) c2, b2 k (Nat.zero_le _) c2] at c4
        cases c4
    · rw [a1, b1, if_pos (by omega)]
      exact nxr_of b2 (Nat.zero_le _) (by simp [b4]) (fun k _ hk => by simp [a2 k (Nat.zero_le _) (by omega), b5 k (Nat.zero_le _) hk])
  · rcases nxr_cases B N 0 with ⟨b1, b2⟩ | ⟨j, b1, b2, _, b4, b5⟩
    · rw [a1, b1, if_neg (by omega)]
      exact nxr_of a2 (Nat.zero_le _) (by simp [a4]) (fun k _ hk => by simp [a5 k (Nat.zero_le _) hk, b2 k (Nat.zero_le _) (by omega)])
    · rw [a1, b1]
      by_cases e : j < i
      · rw [if_pos (by omega)]
        exact nxr_of b2 (Nat.zero_le _) (by simp [b4]) (fun k _ hk => by simp [a5 k (Nat.zero_le _) (by omega), b5 k (Nat.zero_le _) hk])
      · rw [if_neg (by omega)]
        exact nxr_of a2 (Nat.zero_le _) (by simp [a4]) (fun k _ hk => by simp [a5 k (Nat.zero_le _) hk, b5 k (Nat.zero_le _) (by omega)])
theorem nxr_lo (A : Nat → Bool) (N : Nat) : -1 ≤ nxr A N 0 := by
  rcases nxr_cases A N 0 with ⟨a1, _⟩ | ⟨i, a1, _⟩ <;> omega
section
variable {w : World} {lo hi n cap : Nat} {s : Nat → Nat} {r : Raw}
set_option maxHeartbeats 2000000 in
theorem wrong_any (h : RawAt w lo hi s n cap r) (hT : Told r) :
    Calls Tryd.prog 17 #[.pointer (some ⟨s 14, 0, none⟩)] w fun e w' => e = .returned (.int .i64 (nxr (wrTo n r 8) (64 * n) 0)) ∧ Out 0 0 w w' := by
  have HR := hid_mk h
  have HH := hid_mk (wrongHeader_any h hT)
  clear h hT
  go_enter Tryd.func17, Tryd.ntmps17
  go_wp2_with (first
    | (go_at_call 32; refine calls_same (self_any _ _) ?_)
    | (go_at_call 36; refine HH.out.mono ?_; rintro e w1 ⟨rfl, ho⟩; have HO := hid_mk ho; clear ho))
  go_loopw [3, 10] (fun v u wr => ∃ i : Nat, u = .int .i64 (i : Int) ∧ v = .int .i64 (nxr (wrTo n r i) (64 * n) 0) ∧ i ≤ 8 ∧ Out 0 0 w wr) (fun _ u _ => ((8 : Int) - intOf u).toNat)
  case atStart => exact ⟨0, rfl, rfl, Nat.zero_le _, HO.out⟩
  case round =>
    obtain ⟨i, rfl, rfl, i1, i3⟩ := hrel
    have HO1 := hid_mk i3
    have j0 : (0 : Int) ≤ (i : Int) := by omega
    by_cases hlt : (i : Int) < 8
    · have HC : Hid (i < 8) := by show _ < _; omega
      have HL := hid_mk (wrongLink_any (HR.out.quiet i3) HC.out)
      have HN : Hid (nxr (wrTo n r (i + 1)) (64 * n) 0 = _) := nxr_or (wrTo n r i) (lkBad n r i) (64 * n)
      clear i3
      generalize nxr (wrTo n r i) (64 * n) 0 = x at *
      generalize nxr (lkBad n r i) (64 * n) 0 = y at *
      by_cases h1 : 0 ≤ y
      · by_cases h2 : x < 0
        · go_wp2_with (go_at_call 37; refine HL.out.mono ?_; rintro e w4 ⟨rfl, ho⟩)
          exact ⟨⟨i + 1, by congr 1, by rw [HN.out, if_pos ⟨h1, .inl h2⟩], by omega, HO1.out.trans ho⟩, by simp [intOf]; omega⟩
        · by_cases h3 : y < x
          · go_wp2_with (go_at_call 37; refine HL.out.mono ?_; rintro e w4 ⟨rfl, ho⟩)
            exact ⟨⟨i + 1, by congr 1, by rw [HN.out, if_pos ⟨h1, .inr h3⟩], by omega, HO1.out.trans ho⟩, by simp [intOf]; omega⟩
          · go_wp2_with (go_at_call 37; refine HL.out.mono ?_; rintro e w4 ⟨rfl, ho⟩)
            exact ⟨⟨i + 1, by congr 1, by rw [HN.out, if_neg (by omega)], by omega, HO1.out.trans ho⟩, by simp [intOf]; omega⟩
      · go_wp2_with (go_at_call 37; refine HL.out.mono ?_; rintro e w4 ⟨rfl, ho⟩)
        exact ⟨⟨i + 1, by congr 1, by rw [HN.out, if_neg (by omega)], by omega, HO1.out.trans ho⟩, by simp [intOf]; omega⟩
    · have e : i = 8 := by omega
      subst e
      clear i3
      go_wp2
      go_ret
      exact ⟨rfl, HO1.out⟩
end
end Go.Proofs.YtjbbkeoolodeaabDoor
