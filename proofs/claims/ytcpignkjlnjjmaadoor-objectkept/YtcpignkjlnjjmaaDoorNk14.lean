import Derived.Test.YtcpignkjlnjjmaaDoorNk13
namespace Go.Proofs.YtcpignkjlnjjmaaDoor
open Go.RowKit
set_option linter.unusedVariables false
set_option linter.unusedSimpArgs false

theorem retBlk1 {fn : Func} {p : Tmp} {a : Act} {w : World} {g : Nat} {x1 x2 x3 x4 x5 : Int} {post : Ending → World → Prop} (hr : fn.results = #[.cell p 49]) (hp : a.tmps.getD p undef = .pointer (some ⟨g, 0, none⟩))
    (hd : a.defers = []) (hg : w.heap[g]? = some (.cells #[.int .i64 x1, .int .i64 x2, .int .i64 x3, .int .i64 x4, .int .i64 x5] 49 (0, 0))) (h : post (.returned (.agg #[.int .i64 x1, .int .i64 x2, .int .i64 x3, .int .i64 x4, .int .i64 x5])) w) : bodyPost Tryd.prog fn post Exit.ret a w :=
  bodyPost_ret (v := .agg #[.int .i64 x1, .int .i64 x2, .int .i64 x3, .int .i64 x4, .int .i64 x5]) (results_cell_row hr a.tmps _ g 49 _ (0, 0) _ hp hg Tryd.underlying49 rfl (infoB x1 x2 x3 x4 x5)) hd h
theorem blk_set {w : World} {g : Nat} {x1 x2 x3 x4 x5 : Int} {y1 y2 y3 y4 y5 : Value} (h : w.heap[g]? = some (.cells #[y1, y2, y3, y4, y5] 49 (0, 0))) : (((((w.setCell ⟨g, 0, none⟩ (.int .i64 x1)).setCell ⟨g, 1, none⟩ (.int .i64 x2)).setCell ⟨g, 2, none⟩ (.int .i64 x3)).setCell ⟨g, 3, none⟩ (.int .i64 x4)).setCell ⟨g, 4, none⟩ (.int .i64 x5)).heap[g]? = some (.cells #[.int .i64 x1, .int .i64 x2, .int .i64 x3, .int .i64 x4, .int .i64 x5] 49 (0, 0)) := by
  simp [World.setCell, Array.getElem?_modify, h]
theorem Out.set5 {lo hi : Nat} {a w : World} (h : Out lo hi a w) {g : Nat} (hp : (lo ≤ g ∧ g < hi) ∨ a.heap.size ≤ g) (x1 x2 x3 x4 x5 : Value) : Out lo hi a (((((w.setCell ⟨g, 0, none⟩ x1).setCell ⟨g, 1, none⟩ x2).setCell ⟨g, 2, none⟩ x3).setCell ⟨g, 3, none⟩ x4).setCell ⟨g, 4, none⟩ x5) :=
  ((((h.setCell (p := ⟨g, 0, none⟩) hp _).setCell (p := ⟨g, 1, none⟩) hp _).setCell (p := ⟨g, 2, none⟩) hp _).setCell (p := ⟨g, 3, none⟩) hp _).setCell (p := ⟨g, 4, none⟩) hp _
theorem two_second {w : World} {o o2 : Obj} : ((w.alloc o).alloc o2).heap[w.heap.size + 1]? = some o2 := by
  have q := heap_alloc_new (w.alloc o) o2
  simpa using q
/-- what opening a value tells: its error and the error's place -/
def opE (r : Raw) (k m : Int) : Int := if k = 2 ∧ r.M m ≠ none then chkE r m else 30
def opA (r : Raw) (k m : Int) : Int := if k = 2 ∧ r.M m ≠ none then chkA r m else 0
section
variable {w : World} {lo hi hb : Nat} {s : Nat → Nat} {n cap : Nat} {r : Raw}
set_option maxRecDepth 100000 in
set_option maxHeartbeats 8000000 in
theorem open_none (hr : RawAt w lo hi s n cap r) (hA : InArena n r) (hH : w.cell? ⟨hb, 0, none⟩ = some (.pointer (some ⟨s 14, 0, none⟩))) (k m : Int) (hM : r.M m = none) : Calls Tryd.prog 14 #[.pointer (some ⟨hb, 0, none⟩), .agg #[.int .i64 k, .int .i64 m]] w fun e w' => e = .panicked [stopP 30 0] ∧ Out 0 0 w w' := by
  have fV := hid_mk (two_first (w := w) (o := .cells #[.int .i64 k, .int .i64 m] 31) (o2 := .cells #[.int .i64 0, .int .i64 0, .int .i64 0, .int .i64 0, .int .i64 0] 49))
  have fR := hid_mk (two_second (w := w) (o := .cells #[.int .i64 k, .int .i64 m] 31) (o2 := .cells #[.int .i64 0, .int .i64 0, .int .i64 0, .int .i64 0, .int .i64 0] 49))
  have HO2 := hid_mk (((Out.refl 0 0 w).alloc (.cells #[.int .i64 k, .int .i64 m] 31)).alloc (.cells #[.int .i64 0, .int .i64 0, .int .i64 0, .int .i64 0, .int .i64 0] 49))
  have Hr := hid_mk hr
  have HM := hid_mk hM
  have HA := hid_mk hA
  obtain ⟨gv, hgv⟩ : ∃ g, w.heap.size = g := ⟨_, rfl⟩
  have Hgv := hid_mk hgv
  obtain ⟨V2, hV2⟩ : ∃ V, (w.alloc (.cells #[.int .i64 k, .int .i64 m] 31)).alloc (.cells #[.int .i64 0, .int .i64 0, .int .i64 0, .int .i64 0, .int .i64 0] 49) = V := ⟨_, rfl⟩
  rw [hV2, hgv] at fV fR
  rw [hV2] at HO2
  have hH' := HO2.out.cell hH (.inr (Nat.zero_le _))
  clear hH hr hM hA
  obtain ⟨u0, u1, u2, u3⟩ := val_facts fV.out
  have hlow : hb < V2.heap.size ∧ gv < V2.heap.size := ⟨cell_lt hH', cell_lt u1⟩
  have Hlow := hid_mk hlow
  have HRlt : Hid (gv + 1 < V2.heap.size) := heap_lt fR.out
  go_enter Tryd.func14, Tryd.ntmps14
  go_wp2_with fail
  (try rw [hV2])
  (try rw [hgv])
  clear hV2 hgv
  have HB : Hid (∀ V, Out 0 0 V2 V → Calls Tryd.prog 31 #[.pointer (some ⟨s 14, 0, none⟩), .int .i64 m] V fun e w' => e = .returned (.tuple #[.agg #[.int .i64 0, .int .i64 0, .int .i64 0, .int .i64 0, .int .i64 0], .bool false]) ∧ Out 0 0 V w') := fun V o => block_none (Hr.out.quiet (HO2.out.trans o)) HM.out
  refine wp_region_held_drew (S := fun w' => w'.cell? ⟨hb, 0, none⟩ = some (.pointer (some ⟨s 14, 0, none⟩)) ∧ w'.cell? ⟨gv, 1, none⟩ = some (.int .i64 m)) (by kernel_rfl) ?hS61 (fun hHeld => ?rest61)
  case hS61 => exact ⟨hH', u1⟩
  obtain ⟨Z1, hZ⟩ : ∃ Z, V2.drew = Z := ⟨_, rfl⟩
  have O : Out 0 0 V2 Z1 := by rw [← hZ]; exact (Out.refl 0 0 _).drew
  rw [hZ] at hHeld ⊢
  clear hZ
  refine tk 0 ?_
  refine tk 1 ?_
  refine tk 2 ?_
  refine tk 3 ?_
  refine tk 4 ?_
  refine tk 5 ?_
  refine wpAnyH_ready (rs := [6, 10]) (by kernel_rfl) (by simp) ?_
  refine AllReadyH.cons rfl (fun KK hK => ?_) ?_
  · simp only [xa, xb, xc]
    go_simp
    refine (HB.out _ O).mono ?_
    rintro e Z1C ⟨rfl, q1⟩
    replace O := O.trans q1
    refine hK.out _ _ ?hS68 (fun hHeld2 => ?rest68)
    case hS68 => exact ⟨q1.cell hHeld.1 (.inr (Nat.zero_le _)), q1.cell hHeld.2 (.inr (Nat.zero_le _))⟩
    clear q1
    clear hK KK
    (try clear hHeld)
    have hHeld := hHeld2
    clear hHeld2
    (try simp only [Act.put, xa, xb, xc, xd, xe, xf])
    refine tk 7 ?_
    refine tk 8 ?_
    refine tk 9 ?_
    refine wpAnyH_ready (rs := [10]) (by kernel_rfl) (by simp) ?_
    refine AllReadyH.cons rfl (fun KK hK => ?_) ?_
    · simp only [xa, xb, xc]
      go_simp
      obtain ⟨gA, hgf⟩ : ∃ g, Z1C.heap.size = g := ⟨_, rfl⟩
      obtain ⟨Z1CA, hY⟩ : ∃ V, Z1C.alloc (.cells #[.int .i64 0, .int .i64 0, .int .i64 0, .int .i64 0, .int .i64 0] 49) = V := ⟨_, rfl⟩
      have qA : Out 0 0 Z1C Z1CA := by rw [← hY]; exact (Out.refl 0 0 _).alloc _
      have fA : Z1CA.heap[gA]? = some (.cells #[.int .i64 0, .int .i64 0, .int .i64 0, .int .i64 0, .int .i64 0] 49 (0, 0)) := by rw [← hY, ← hgf]; exact heap_alloc_new _ _
      have hgA : V2.heap.size ≤ gA := by have := O.size; omega
      (try rw [hY])
      (try rw [hgf])
      clear hY hgf
      replace O := O.trans qA
      refine hK.out _ _ ?hS72 (fun hHeld2 => ?rest72)
      case hS72 => exact ⟨qA.cell hHeld.1 (.inr (Nat.zero_le _)), qA.cell hHeld.2 (.inr (Nat.zero_le _))⟩
      clear qA
      clear hK KK
      (try clear hHeld)
      have hHeld := hHeld2
      clear hHeld2
      (try simp only [Act.put, xa, xb, xc, xd, xe, xf])
      refine wpAnyH_ready (rs := [11]) (by kernel_rfl) (by simp) ?_
      refine AllReadyH.cons rfl (fun KK hK => ?_) ?_
      · simp only [xa, xb, xc]
        obtain ⟨y0, y1, y2, y3, y4, y5⟩ := blk5 fA
        go_simp
        clear y0 y1 y2 y3 y4 y5
        obtain ⟨Z1CAS, hY⟩ : ∃ V, (((((Z1CA.setCell ⟨gA, 0, none⟩ (.int .i64 0)).setCell ⟨gA, 1, none⟩ (.int .i64 0)).setCell ⟨gA, 2, none⟩ (.int .i64 0)).setCell ⟨gA, 3, none⟩ (.int .i64 0)).setCell ⟨gA, 4, none⟩ (.int .i64 0)) = V := ⟨_, rfl⟩
        have qS : Out gA (gA + 1) Z1CA Z1CAS := by rw [← hY]; exact (((((Out.refl _ _ _).setCell (p := ⟨gA, 0, none⟩) (.inl ⟨Nat.le_refl _, Nat.lt_succ_self _⟩) _).setCell (p := ⟨gA, 1, none⟩) (.inl ⟨Nat.le_refl _, Nat.lt_succ_self _⟩) _).setCell (p := ⟨gA, 2, none⟩) (.inl ⟨Nat.le_refl _, Nat.lt_succ_self _⟩) _).setCell (p := ⟨gA, 3, none⟩) (.inl ⟨Nat.le_refl _, Nat.lt_succ_self _⟩) _).setCell (p := ⟨gA, 4, none⟩) (.inl ⟨Nat.le_refl _, Nat.lt_succ_self _⟩) _
        replace O : Out 0 0 V2 Z1CAS := by rw [← hY]; exact ((((O.setCell (p := ⟨gA, 0, none⟩) (.inr hgA) _).setCell (p := ⟨gA, 1, none⟩) (.inr hgA) _).setCell (p := ⟨gA, 2, none⟩) (.inr hgA) _).setCell (p := ⟨gA, 3, none⟩) (.inr hgA) _).setCell (p := ⟨gA, 4, none⟩) (.inr hgA) _
        have fB : Z1CAS.heap[gA]? = some (.cells #[.int .i64 0, .int .i64 0, .int .i64 0, .int .i64 0, .int .i64 0] 49 (0, 0)) := by rw [← hY]; simp [World.setCell, Array.getElem?_modify, fA]
        (try rw [hY])
        clear hY fA
        refine hK.out _ _ ?hS73 (fun hHeld2 => ?rest73)
        case hS73 => exact ⟨qS.cell hHeld.1 (.inl (by have := hlow; omega)), qS.cell hHeld.2 (.inl (by have := hlow; omega))⟩
        clear qS
        clear hK KK
        (try clear hHeld)
        have hHeld := hHeld2
        clear hHeld2
        (try simp only [Act.put, xa, xb, xc, xd, xe, xf])
        refine tk 12 ?_
        refine wpAnyH_done (by kernel_rfl) ?_ _
        have HE := hid_mk (HO2.out.trans O)
        obtain ⟨x0, x1, x2, x3⟩ := val_facts (O.heap fV.out (.inr (Nat.zero_le _)))
        clear O fB hHeld
        go_wp2_with fail
        refine (want_no _ _).mono ?_
        rintro e V9 ⟨rfl, rfl⟩
        exact ⟨rfl, rfl, HE.out⟩
      · exact AllReadyH.nil
    · exact AllReadyH.nil
  · refine AllReadyH.cons rfl (fun KK hK => ?_) ?_
    · simp only [xa, xb, xc]
      go_simp
      obtain ⟨gA, hgf⟩ : ∃ g, Z1.heap.size = g := ⟨_, rfl⟩
      obtain ⟨Z1A, hY⟩ : ∃ V, Z1.alloc (.cells #[.int .i64 0, .int .i64 0, .int .i64 0, .int .i64 0, .int .i64 0] 49) = V := ⟨_, rfl⟩
      have qA : Out 0 0 Z1 Z1A := by rw [← hY]; exact (Out.refl 0 0 _).alloc _
      have fA : Z1A.heap[gA]? = some (.cells #[.int .i64 0, .int .i64 0, .int .i64 0, .int .i64 0, .int .i64 0] 49 (0, 0)) := by rw [← hY, ← hgf]; exact heap_alloc_new _ _
      have hgA : V2.heap.size ≤ gA := by have := O.size; omega
      (try rw [hY])
      (try rw [hgf])
      clear hY hgf
      replace O := O.trans qA
      refine hK.out _ _ ?hS75 (fun hHeld2 => ?rest75)
      case hS75 => exact ⟨qA.cell hHeld.1 (.inr (Nat.zero_le _)), qA.cell hHeld.2 (.inr (Nat.zero_le _))⟩
      clear qA
      clear hK KK
      (try clear hHeld)
      have hHeld := hHeld2
      clear hHeld2
      (try simp only [Act.put, xa, xb, xc, xd, xe, xf])
      refine wpAnyH_ready (rs := [6]) (by kernel_rfl) (by simp) ?_
      refine AllReadyH.cons rfl (fun KK hK => ?_) ?_
      · simp only [xa, xb, xc]
        go_simp
        refine (HB.out _ O).mono ?_
        rintro e Z1AC ⟨rfl, q1⟩
        replace O := O.trans q1
        replace fA := q1.heap fA (.inr (Nat.zero_le _))
        refine hK.out _ _ ?hS76 (fun hHeld2 => ?rest76)
        case hS76 => exact ⟨q1.cell hHeld.1 (.inr (Nat.zero_le _)), q1.cell hHeld.2 (.inr (Nat.zero_le _))⟩
        clear q1
        clear hK KK
        (try clear hHeld)
        have hHeld := hHeld2
        clear hHeld2
        (try simp only [Act.put, xa, xb, xc, xd, xe, xf])
        refine tk 7 ?_
        refine tk 8 ?_
        refine tk 9 ?_
        refine wpAnyH_ready (rs := [11]) (by kernel_rfl) (by simp) ?_
        refine AllReadyH.cons rfl (fun KK hK => ?_) ?_
        · simp only [xa, xb, xc]
          obtain ⟨y0, y1, y2, y3, y4, y5⟩ := blk5 fA
          go_simp
          clear y0 y1 y2 y3 y4 y5
          obtain ⟨Z1ACS, hY⟩ : ∃ V, (((((Z1AC.setCell ⟨gA, 0, none⟩ (.int .i64 0)).setCell ⟨gA, 1, none⟩ (.int .i64 0)).setCell ⟨gA, 2, none⟩ (.int .i64 0)).setCell ⟨gA, 3, none⟩ (.int .i64 0)).setCell ⟨gA, 4, none⟩ (.int .i64 0)) = V := ⟨_, rfl⟩
          have qS : Out gA (gA + 1) Z1AC Z1ACS := by rw [← hY]; exact (((((Out.refl _ _ _).setCell (p := ⟨gA, 0, none⟩) (.inl ⟨Nat.le_refl _, Nat.lt_succ_self _⟩) _).setCell (p := ⟨gA, 1, none⟩) (.inl ⟨Nat.le_refl _, Nat.lt_succ_self _⟩) _).setCell (p := ⟨gA, 2, none⟩) (.inl ⟨Nat.le_refl _, Nat.lt_succ_self _⟩) _).setCell (p := ⟨gA, 3, none⟩) (.inl ⟨Nat.le_refl _, Nat.lt_succ_self _⟩) _).setCell (p := ⟨gA, 4, none⟩) (.inl ⟨Nat.le_refl _, Nat.lt_succ_self _⟩) _
          replace O : Out 0 0 V2 Z1ACS := by rw [← hY]; exact ((((O.setCell (p := ⟨gA, 0, none⟩) (.inr hgA) _).setCell (p := ⟨gA, 1, none⟩) (.inr hgA) _).setCell (p := ⟨gA, 2, none⟩) (.inr hgA) _).setCell (p := ⟨gA, 3, none⟩) (.inr hgA) _).setCell (p := ⟨gA, 4, none⟩) (.inr hgA) _
          have fB : Z1ACS.heap[gA]? = some (.cells #[.int .i64 0, .int .i64 0, .int .i64 0, .int .i64 0, .int .i64 0] 49 (0, 0)) := by rw [← hY]; simp [World.setCell, Array.getElem?_modify, fA]
          (try rw [hY])
          clear hY fA
          refine hK.out _ _ ?hS80 (fun hHeld2 => ?rest80)
          case hS80 => exact ⟨qS.cell hHeld.1 (.inl (by have := hlow; omega)), qS.cell hHeld.2 (.inl (by have := hlow; omega))⟩
          clear qS
          clear hK KK
          (try clear hHeld)
          have hHeld := hHeld2
          clear hHeld2
          (try simp only [Act.put, xa, xb, xc, xd, xe, xf])
          refine tk 12 ?_
          refine wpAnyH_done (by kernel_rfl) ?_ _
          have HE := hid_mk (HO2.out.trans O)
          obtain ⟨x0, x1, x2, x3⟩ := val_facts (O.heap fV.out (.inr (Nat.zero_le _)))
          clear O fB hHeld
          go_wp2_with fail
          refine (want_no _ _).mono ?_
          rintro e V9 ⟨rfl, rfl⟩
          exact ⟨rfl, rfl, HE.out⟩
        · exact AllReadyH.nil
      · exact AllReadyH.nil
    · exact AllReadyH.nil
set_option maxRecDepth 100000 in
set_option maxHeartbeats 8000000 in
theorem open_kind (hr : RawAt w lo hi s n cap r) (hA : InArena n r) (hH : w.cell? ⟨hb, 0, none⟩ = some (.pointer (some ⟨s 14, 0, none⟩))) (k m : Int) {t1 t2 t3 t4 : Int} (hM : r.M m = some (t1, t2, t3, t4)) (hk : k ≠ 2) : Calls Tryd.prog 14 #[.pointer (some ⟨hb, 0, none⟩), .agg #[.int .i64 k, .int .i64 m]] w fun e w' => e = .panicked [stopP 30 0] ∧ Out 0 0 w w' := by
  have k2 : (k == 2) = false := by simpa using hk
  clear hk
  have fV := hid_mk (two_first (w := w) (o := .cells #[.int .i64 k, .int .i64 m] 31) (o2 := .cells #[.int .i64 0, .int .i64 0, .int .i64 0, .int .i64 0, .int .i64 0] 49))
  have fR := hid_mk (two_second (w := w) (o := .cells #[.int .i64 k, .int .i64 m] 31) (o2 := .cells #[.int .i64 0, .int .i64 0, .int .i64 0, .int .i64 0, .int .i64 0] 49))
  have HO2 := hid_mk (((Out.refl 0 0 w).alloc (.cells #[.int .i64 k, .int .i64 m] 31)).alloc (.cells #[.int .i64 0, .int .i64 0, .int .i64 0, .int .i64 0, .int .i64 0] 49))
  have Hr := hid_mk hr
  have HM := hid_mk hM
  have HA := hid_mk hA
  obtain ⟨gv, hgv⟩ : ∃ g, w.heap.size = g := ⟨_, rfl⟩
  have Hgv := hid_mk hgv
  obtain ⟨V2, hV2⟩ : ∃ V, (w.alloc (.cells #[.int .i64 k, .int .i64 m] 31)).alloc (.cells #[.int .i64 0, .int .i64 0, .int .i64 0, .int .i64 0, .int .i64 0] 49) = V := ⟨_, rfl⟩
  rw [hV2, hgv] at fV fR
  rw [hV2] at HO2
  have hH' := HO2.out.cell hH (.inr (Nat.zero_le _))
  clear hH hr hM hA
  obtain ⟨u0, u1, u2, u3⟩ := val_facts fV.out
  have hlow : hb < V2.heap.size ∧ gv < V2.heap.size := ⟨cell_lt hH', cell_lt u1⟩
  have Hlow := hid_mk hlow
  have HRlt : Hid (gv + 1 < V2.heap.size) := heap_lt fR.out
  go_enter Tryd.func14, Tryd.ntmps14
  go_wp2_with fail
  (try rw [hV2])
  (try rw [hgv])
  clear hV2 hgv
  have HB : Hid (∀ V, Out 0 0 V2 V → Calls Tryd.prog 31 #[.pointer (some ⟨s 14, 0, none⟩), .int .i64 m] V fun e w' => e = .returned (.tuple #[.agg #[.int .i64 m, .int .i64 t1, .int .i64 t2, .int .i64 t3, .int .i64 t4], .bool true]) ∧ Out 0 0 V w') := fun V o => block_some (Hr.out.quiet (HO2.out.trans o)) HM.out
  refine wp_region_held_drew (S := fun w' => w'.cell? ⟨hb, 0, none⟩ = some (.pointer (some ⟨s 14, 0, none⟩)) ∧ w'.cell? ⟨gv, 1, none⟩ = some (.int .i64 m)) (by kernel_rfl) ?hS82 (fun hHeld => ?rest82)
  case hS82 => exact ⟨hH', u1⟩
  obtain ⟨Z1, hZ⟩ : ∃ Z, V2.drew = Z := ⟨_, rfl⟩
  have O : Out 0 0 V2 Z1 := by rw [← hZ]; exact (Out.refl 0 0 _).drew
  rw [hZ] at hHeld ⊢
  clear hZ
  refine tk 0 ?_
  refine tk 1 ?_
  refine tk 2 ?_
  refine tk 3 ?_
  refine tk 4 ?_
  refine tk 5 ?_
  refine wpAnyH_ready (rs := [6, 10]) (by kernel_rfl) (by simp) ?_
  refine AllReadyH.cons rfl (fun KK hK => ?_) ?_
  · simp only [xa, xb, xc]
    go_simp
    refine (HB.out _ O).mono ?_
    rintro e Z1C ⟨rfl, q1⟩
    replace O := O.trans q1
    refine hK.out _ _ ?hS89 (fun hHeld2 => ?rest89)
    case hS89 => exact ⟨q1.cell hHeld.1 (.inr (Nat.zero_le _)), q1.cell hHeld.2 (.inr (Nat.zero_le _))⟩
    clear q1
    clear hK KK
    (try clear hHeld)
    have hHeld := hHeld2
    clear hHeld2
    (try simp only [Act.put, xa, xb, xc, xd, xe, xf])
    refine tk 7 ?_
    refine tk 8 ?_
    refine tk 9 ?_
    refine wpAnyH_ready (rs := [10]) (by kernel_rfl) (by simp) ?_
    refine AllReadyH.cons rfl (fun KK hK => ?_) ?_
    · simp only [xa, xb, xc]
      go_simp
      obtain ⟨gA, hgf⟩ : ∃ g, Z1C.heap.size = g := ⟨_, rfl⟩
      obtain ⟨Z1CA, hY⟩ : ∃ V, Z1C.alloc (.cells #[.int .i64 0, .int .i64 0, .int .i64 0, .int .i64 0, .int .i64 0] 49) = V := ⟨_, rfl⟩
      have qA : Out 0 0 Z1C Z1CA := by rw [← hY]; exact (Out.refl 0 0 _).alloc _
      have fA : Z1CA.heap[gA]? = some (.cells #[.int .i64 0, .int .i64 0, .int .i64 0, .int .i64 0, .int .i64 0] 49 (0, 0)) := by rw [← hY, ← hgf]; exact heap_alloc_new _ _
      have hgA : V2.heap.size ≤ gA := by have := O.size; omega
      (try rw [hY])
      (try rw [hgf])
      clear hY hgf
      replace O := O.trans qA
      refine hK.out _ _ ?hS93 (fun hHeld2 => ?rest93)
      case hS93 => exact ⟨qA.cell hHeld.1 (.inr (Nat.zero_le _)), qA.cell hHeld.2 (.inr (Nat.zero_le _))⟩
      clear qA
      clear hK KK
      (try clear hHeld)
      have hHeld := hHeld2
      clear hHeld2
      (try simp only [Act.put, xa, xb, xc, xd, xe, xf])
      refine wpAnyH_ready (rs := [11]) (by kernel_rfl) (by simp) ?_
      refine AllReadyH.cons rfl (fun KK hK => ?_) ?_
      · simp only [xa, xb, xc]
        obtain ⟨y0, y1, y2, y3, y4, y5⟩ := blk5 fA
        go_simp
        clear y0 y1 y2 y3 y4 y5
        obtain ⟨Z1CAS, hY⟩ : ∃ V, (((((Z1CA.setCell ⟨gA, 0, none⟩ (.int .i64 m)).setCell ⟨gA, 1, none⟩ (.int .i64 t1)).setCell ⟨gA, 2, none⟩ (.int .i64 t2)).setCell ⟨gA, 3, none⟩ (.int .i64 t3)).setCell ⟨gA, 4, none⟩ (.int .i64 t4)) = V := ⟨_, rfl⟩
        have qS : Out gA (gA + 1) Z1CA Z1CAS := by rw [← hY]; exact (((((Out.refl _ _ _).setCell (p := ⟨gA, 0, none⟩) (.inl ⟨Nat.le_refl _, Nat.lt_succ_self _⟩) _).setCell (p := ⟨gA, 1, none⟩) (.inl ⟨Nat.le_refl _, Nat.lt_succ_self _⟩) _).setCell (p := ⟨gA, 2, none⟩) (.inl ⟨Nat.le_refl _, Nat.lt_succ_self _⟩) _).setCell (p := ⟨gA, 3, none⟩) (.inl ⟨Nat.le_refl _, Nat.lt_succ_self _⟩) _).setCell (p := ⟨gA, 4, none⟩) (.inl ⟨Nat.le_refl _, Nat.lt_succ_self _⟩) _
        replace O : Out 0 0 V2 Z1CAS := by rw [← hY]; exact ((((O.setCell (p := ⟨gA, 0, none⟩) (.inr hgA) _).setCell (p := ⟨gA, 1, none⟩) (.inr hgA) _).setCell (p := ⟨gA, 2, none⟩) (.inr hgA) _).setCell (p := ⟨gA, 3, none⟩) (.inr hgA) _).setCell (p := ⟨gA, 4, none⟩) (.inr hgA) _
        have fB : Z1CAS.heap[gA]? = some (.cells #[.int .i64 m, .int .i64 t1, .int .i64 t2, .int .i64 t3, .int .i64 t4] 49 (0, 0)) := by rw [← hY]; simp [World.setCell, Array.getElem?_modify, fA]
        (try rw [hY])
        clear hY fA
        refine hK.out _ _ ?hS94 (fun hHeld2 => ?rest94)
        case hS94 => exact ⟨qS.cell hHeld.1 (.inl (by have := hlow; omega)), qS.cell hHeld.2 (.inl (by have := hlow; omega))⟩
        clear qS
        clear hK KK
        (try clear hHeld)
        have hHeld := hHeld2
        clear hHeld2
        (try simp only [Act.put, xa, xb, xc, xd, xe, xf])
        refine tk 12 ?_
        refine wpAnyH_done (by kernel_rfl) ?_ _
        have HE := hid_mk (HO2.out.trans O)
        obtain ⟨x0, x1, x2, x3⟩ := val_facts (O.heap fV.out (.inr (Nat.zero_le _)))
        clear O fB hHeld
        go_wp2_with fail
        refine (want_no _ _).mono ?_
        rintro e V9 ⟨rfl, rfl⟩
        exact ⟨rfl, rfl, HE.out⟩
      · exact AllReadyH.nil
    · exact AllReadyH.nil
  · refine AllReadyH.cons rfl (fun KK hK => ?_) ?_
    · simp only [xa, xb, xc]
      go_simp
      obtain ⟨gA, hgf⟩ : ∃ g, Z1.heap.size = g := ⟨_, rfl⟩
      obtain ⟨Z1A, hY⟩ : ∃ V, Z1.alloc (.cells #[.int .i64 0, .int .i64 0, .int .i64 0, .int .i64 0, .int .i64 0] 49) = V := ⟨_, rfl⟩
      have qA : Out 0 0 Z1 Z1A := by rw [← hY]; exact (Out.refl 0 0 _).alloc _
      have fA : Z1A.heap[gA]? = some (.cells #[.int .i64 0, .int .i64 0, .int .i64 0, .int .i64 0, .int .i64 0] 49 (0, 0)) := by rw [← hY, ← hgf]; exact heap_alloc_new _ _
      have hgA : V2.heap.size ≤ gA := by have := O.size; omega
      (try rw [hY])
      (try rw [hgf])
      clear hY hgf
      replace O := O.trans qA
      refine hK.out _ _ ?hS96 (fun hHeld2 => ?rest96)
      case hS96 => exact ⟨qA.cell hHeld.1 (.inr (Nat.zero_le _)), qA.cell hHeld.2 (.inr (Nat.zero_le _))⟩
      clear qA
      clear hK KK
      (try clear hHeld)
      have hHeld := hHeld2
      clear hHeld2
      (try simp only [Act.put, xa, xb, xc, xd, xe, xf])
      refine wpAnyH_ready (rs := [6]) (by kernel_rfl) (by simp) ?_
      refine AllReadyH.cons rfl (fun KK hK => ?_) ?_
      · simp only [xa, xb, xc]
        go_simp
        refine (HB.out _ O).mono ?_
        rintro e Z1AC ⟨rfl, q1⟩
        replace O := O.trans q1
        replace fA := q1.heap fA (.inr (Nat.zero_le _))
        refine hK.out _ _ ?hS97 (fun hHeld2 => ?rest97)
        case hS97 => exact ⟨q1.cell hHeld.1 (.inr (Nat.zero_le _)), q1.cell hHeld.2 (.inr (Nat.zero_le _))⟩
        clear q1
        clear hK KK
        (try clear hHeld)
        have hHeld := hHeld2
        clear hHeld2
        (try simp only [Act.put, xa, xb, xc, xd, xe, xf])
        refine tk 7 ?_
        refine tk 8 ?_
        refine tk 9 ?_
        refine wpAnyH_ready (rs := [11]) (by kernel_rfl) (by simp) ?_
        refine AllReadyH.cons rfl (fun KK hK => ?_) ?_
        · simp only [xa, xb, xc]
          obtain ⟨y0, y1, y2, y3, y4, y5⟩ := blk5 fA
          go_simp
          clear y0 y1 y2 y3 y4 y5
          obtain ⟨Z1ACS, hY⟩ : ∃ V, (((((Z1AC.setCell ⟨gA, 0, none⟩ (.int .i64 m)).setCell ⟨gA, 1, none⟩ (.int .i64 t1)).setCell ⟨gA, 2, none⟩ (.int .i64 t2)).setCell ⟨gA, 3, none⟩ (.int .i64 t3)).setCell ⟨gA, 4, none⟩ (.int .i64 t4)) = V := ⟨_, rfl⟩
          have qS : Out gA (gA + 1) Z1AC Z1ACS := by rw [← hY]; exact (((((Out.refl _ _ _).setCell (p := ⟨gA, 0, none⟩) (.inl ⟨Nat.le_refl _, Nat.lt_succ_self _⟩) _).setCell (p := ⟨gA, 1, none⟩) (.inl ⟨Nat.le_refl _, Nat.lt_succ_self _⟩) _).setCell (p := ⟨gA, 2, none⟩) (.inl ⟨Nat.le_refl _, Nat.lt_succ_self _⟩) _).setCell (p := ⟨gA, 3, none⟩) (.inl ⟨Nat.le_refl _, Nat.lt_succ_self _⟩) _).setCell (p := ⟨gA, 4, none⟩) (.inl ⟨Nat.le_refl _, Nat.lt_succ_self _⟩) _
          replace O : Out 0 0 V2 Z1ACS := by rw [← hY]; exact ((((O.setCell (p := ⟨gA, 0, none⟩) (.inr hgA) _).setCell (p := ⟨gA, 1, none⟩) (.inr hgA) _).setCell (p := ⟨gA, 2, none⟩) (.inr hgA) _).setCell (p := ⟨gA, 3, none⟩) (.inr hgA) _).setCell (p := ⟨gA, 4, none⟩) (.inr hgA) _
          have fB : Z1ACS.heap[gA]? = some (.cells #[.int .i64 m, .int .i64 t1, .int .i64 t2, .int .i64 t3, .int .i64 t4] 49 (0, 0)) := by rw [← hY]; simp [World.setCell, Array.getElem?_modify, fA]
          (try rw [hY])
          clear hY fA
          refine hK.out _ _ ?hS101 (fun hHeld2 => ?rest101)
          case hS101 => exact ⟨qS.cell hHeld.1 (.inl (by have := hlow; omega)), qS.cell hHeld.2 (.inl (by have := hlow; omega))⟩
          clear qS
          clear hK KK
          (try clear hHeld)
          have hHeld := hHeld2
          clear hHeld2
          (try simp only [Act.put, xa, xb, xc, xd, xe, xf])
          refine tk 12 ?_
          refine wpAnyH_done (by kernel_rfl) ?_ _
          have HE := hid_mk (HO2.out.trans O)
          obtain ⟨x0, x1, x2, x3⟩ := val_facts (O.heap fV.out (.inr (Nat.zero_le _)))
          clear O fB hHeld
          go_wp2_with fail
          refine (want_no _ _).mono ?_
          rintro e V9 ⟨rfl, rfl⟩
          exact ⟨rfl, rfl, HE.out⟩
        · exact AllReadyH.nil
      · exact AllReadyH.nil
    · exact AllReadyH.nil
set_option maxRecDepth 100000 in
set_option maxHeartbeats 8000000 in
theorem open_ok (hr : RawAt w lo hi s n cap r) (hA : InArena n r) (hH : w.cell? ⟨hb, 0, none⟩ = some (.pointer (some ⟨s 14, 0, none⟩))) (k m : Int) {t1 t2 t3 t4 : Int} (hM : r.M m = some (t1, t2, t3, t4)) (hk : k = 2) (hc : chkE r m = 0) : Calls Tryd.prog 14 #[.pointer (some ⟨hb, 0, none⟩), .agg #[.int .i64 k, .int .i64 m]] w fun e w' => e = .returned (.agg #[.int .i64 m, .int .i64 t1, .int .i64 t2, .int .i64 t3, .int .i64 t4]) ∧ Out 0 0 w w' := by
  subst hk
  have Hc := hid_mk hc
  clear hc
  have fV := hid_mk (two_first (w := w) (o := .cells #[.int .i64 2, .int .i64 m] 31) (o2 := .cells #[.int .i64 0, .int .i64 0, .int .i64 0, .int .i64 0, .int .i64 0] 49))
  have fR := hid_mk (two_second (w := w) (o := .cells #[.int .i64 2, .int .i64 m] 31) (o2 := .cells #[.int .i64 0, .int .i64 0, .int .i64 0, .int .i64 0, .int .i64 0] 49))
  have HO2 := hid_mk (((Out.refl 0 0 w).alloc (.cells #[.int .i64 2, .int .i64 m] 31)).alloc (.cells #[.int .i64 0, .int .i64 0, .int .i64 0, .int .i64 0, .int .i64 0] 49))
  have Hr := hid_mk hr
  have HM := hid_mk hM
  have HA := hid_mk hA
  obtain ⟨gv, hgv⟩ : ∃ g, w.heap.size = g := ⟨_, rfl⟩
  have Hgv := hid_mk hgv
  obtain ⟨V2, hV2⟩ : ∃ V, (w.alloc (.cells #[.int .i64 2, .int .i64 m] 31)).alloc (.cells #[.int .i64 0, .int .i64 0, .int .i64 0, .int .i64 0, .int .i64 0] 49) = V := ⟨_, rfl⟩
  rw [hV2, hgv] at fV fR
  rw [hV2] at HO2
  have hH' := HO2.out.cell hH (.inr (Nat.zero_le _))
  clear hH hr hM hA
  obtain ⟨u0, u1, u2, u3⟩ := val_facts fV.out
  have hlow : hb < V2.heap.size ∧ gv < V2.heap.size := ⟨cell_lt hH', cell_lt u1⟩
  have Hlow := hid_mk hlow
  have HRlt : Hid (gv + 1 < V2.heap.size) := heap_lt fR.out
  go_enter Tryd.func14, Tryd.ntmps14
  go_wp2_with fail
  (try rw [hV2])
  (try rw [hgv])
  clear hV2 hgv
  have HB : Hid (∀ V, Out 0 0 V2 V → Calls Tryd.prog 31 #[.pointer (some ⟨s 14, 0, none⟩), .int .i64 m] V fun e w' => e = .returned (.tuple #[.agg #[.int .i64 m, .int .i64 t1, .int .i64 t2, .int .i64 t3, .int .i64 t4], .bool true]) ∧ Out 0 0 V w') := fun V o => block_some (Hr.out.quiet (HO2.out.trans o)) HM.out
  have HC : Hid (∀ V, Out 0 0 V2 V → Calls Tryd.prog 32 #[.pointer (some ⟨s 14, 0, none⟩), .int .i64 m] V fun e w' => e = .returned (.agg #[.int .i64 0, .int .i64 (chkA r m)]) ∧ Out 0 0 V w') := fun V o => by
    have q := check_any (Hr.out.quiet (HO2.out.trans o)) HA.out m
    rw [Hc.out] at q; exact q
  refine wp_region_held_drew (S := fun w' => w'.cell? ⟨hb, 0, none⟩ = some (.pointer (some ⟨s 14, 0, none⟩)) ∧ w'.cell? ⟨gv, 1, none⟩ = some (.int .i64 m)) (by kernel_rfl) ?hS103 (fun hHeld => ?rest103)
  case hS103 => exact ⟨hH', u1⟩
  obtain ⟨Z1, hZ⟩ : ∃ Z, V2.drew = Z := ⟨_, rfl⟩
  have O : Out 0 0 V2 Z1 := by rw [← hZ]; exact (Out.refl 0 0 _).drew
  rw [hZ] at hHeld ⊢
  clear hZ
  refine tk 0 ?_
  refine tk 1 ?_
  refine tk 2 ?_
  refine tk 3 ?_
  refine tk 4 ?_
  refine tk 5 ?_
  refine wpAnyH_ready (rs := [6, 10]) (by kernel_rfl) (by simp) ?_
  refine AllReadyH.cons rfl (fun KK hK => ?_) ?_
  · simp only [xa, xb, xc]
    go_simp
    refine (HB.out _ O).mono ?_
    rintro e Z1C ⟨rfl, q1⟩
    replace O := O.trans q1
    refine hK.out _ _ ?hS110 (fun hHeld2 => ?rest110)
    case hS110 => exact ⟨q1.cell hHeld.1 (.inr (Nat.zero_le _)), q1.cell hHeld.2 (.inr (Nat.zero_le _))⟩
    clear q1
    clear hK KK
    (try clear hHeld)
    have hHeld := hHeld2
    clear hHeld2
    (try simp only [Act.put, xa, xb, xc, xd, xe, xf])
    refine tk 7 ?_
    refine tk 8 ?_
    refine tk 9 ?_
    refine wpAnyH_ready (rs := [10]) (by kernel_rfl) (by simp) ?_
    refine AllReadyH.cons rfl (fun KK hK => ?_) ?_
    · simp only [xa, xb, xc]
      go_simp
      obtain ⟨gA, hgf⟩ : ∃ g, Z1C.heap.size = g := ⟨_, rfl⟩
      obtain ⟨Z1CA, hY⟩ : ∃ V, Z1C.alloc (.cells #[.int .i64 0, .int .i64 0, .int .i64 0, .int .i64 0, .int .i64 0] 49) = V := ⟨_, rfl⟩
      have qA : Out 0 0 Z1C Z1CA := by rw [← hY]; exact (Out.refl 0 0 _).alloc _
      have fA : Z1CA.heap[gA]? = some (.cells #[.int .i64 0, .int .i64 0, .int .i64 0, .int .i64 0, .int .i64 0] 49 (0, 0)) := by rw [← hY, ← hgf]; exact heap_alloc_new _ _
      have hgA : V2.heap.size ≤ gA := by have := O.size; omega
      (try rw [hY])
      (try rw [hgf])
      clear hY hgf
      replace O := O.trans qA
      refine hK.out _ _ ?hS114 (fun hHeld2 => ?rest114)
      case hS114 => exact ⟨qA.cell hHeld.1 (.inr (Nat.zero_le _)), qA.cell hHeld.2 (.inr (Nat.zero_le _))⟩
      clear qA
      clear hK KK
      (try clear hHeld)
      have hHeld := hHeld2
      clear hHeld2
      (try simp only [Act.put, xa, xb, xc, xd, xe, xf])
      refine wpAnyH_ready (rs := [11]) (by kernel_rfl) (by simp) ?_
      refine AllReadyH.cons rfl (fun KK hK => ?_) ?_
      · simp only [xa, xb, xc]
        obtain ⟨y0, y1, y2, y3, y4, y5⟩ := blk5 fA
        go_simp
        clear y0 y1 y2 y3 y4 y5
        obtain ⟨Z1CAS, hY⟩ : ∃ V, (((((Z1CA.setCell ⟨gA, 0, none⟩ (.int .i64 m)).setCell ⟨gA, 1, none⟩ (.int .i64 t1)).setCell ⟨gA, 2, none⟩ (.int .i64 t2)).setCell ⟨gA, 3, none⟩ (.int .i64 t3)).setCell ⟨gA, 4, none⟩ (.int .i64 t4)) = V := ⟨_, rfl⟩
        have qS : Out gA (gA + 1) Z1CA Z1CAS := by rw [← hY]; exact (((((Out.refl _ _ _).setCell (p := ⟨gA, 0, none⟩) (.inl ⟨Nat.le_refl _, Nat.lt_succ_self _⟩) _).setCell (p := ⟨gA, 1, none⟩) (.inl ⟨Nat.le_refl _, Nat.lt_succ_self _⟩) _).setCell (p := ⟨gA, 2, none⟩) (.inl ⟨Nat.le_refl _, Nat.lt_succ_self _⟩) _).setCell (p := ⟨gA, 3, none⟩) (.inl ⟨Nat.le_refl _, Nat.lt_succ_self _⟩) _).setCell (p := ⟨gA, 4, none⟩) (.inl ⟨Nat.le_refl _, Nat.lt_succ_self _⟩) _
        replace O : Out 0 0 V2 Z1CAS := by rw [← hY]; exact ((((O.setCell (p := ⟨gA, 0, none⟩) (.inr hgA) _).setCell (p := ⟨gA, 1, none⟩) (.inr hgA) _).setCell (p := ⟨gA, 2, none⟩) (.inr hgA) _).setCell (p := ⟨gA, 3, none⟩) (.inr hgA) _).setCell (p := ⟨gA, 4, none⟩) (.inr hgA) _
        have fB : Z1CAS.heap[gA]? = some (.cells #[.int .i64 m, .int .i64 t1, .int .i64 t2, .int .i64 t3, .int .i64 t4] 49 (0, 0)) := by rw [← hY]; simp [World.setCell, Array.getElem?_modify, fA]
        (try rw [hY])
        clear hY fA
        refine hK.out _ _ ?hS115 (fun hHeld2 => ?rest115)
        case hS115 => exact ⟨qS.cell hHeld.1 (.inl (by have := hlow; omega)), qS.cell hHeld.2 (.inl (by have := hlow; omega))⟩
        clear qS
        clear hK KK
        (try clear hHeld)
        have hHeld := hHeld2
        clear hHeld2
        (try simp only [Act.put, xa, xb, xc, xd, xe, xf])
        refine tk 12 ?_
        refine wpAnyH_done (by kernel_rfl) ?_ _
        have HE := hid_mk O
        have HfB := hid_mk fB
        have HgA := hid_mk hgA
        obtain ⟨x0, x1, x2, x3⟩ := val_facts (O.heap fV.out (.inr (Nat.zero_le _)))
        clear O fB hHeld hgA
        go_wp2_with fail
        refine (want_yes _ _).mono ?_
        rintro e V9 ⟨rfl, he⟩
        rw [he]
        clear he V9
        go_wp2_with fail
        clear x0 x1 x2 x3
        obtain ⟨y0, y1, y2, y3, y4, y5⟩ := blk5 HfB.out
        have hH9 := HE.out.cell hH' (.inr (Nat.zero_le _))
        refine wp_region_held_drew (S := fun w' => w'.cell? ⟨hb, 0, none⟩ = some (.pointer (some ⟨s 14, 0, none⟩)) ∧ w'.cell? ⟨gA, 0, none⟩ = some (.int .i64 m) ∧ Out 0 0 Z1CAS w') (by kernel_rfl) ?hS117 (fun hHeld => ?rest117)
        case hS117 => exact ⟨hH9, y0, (Out.refl 0 0 _).drew⟩
        refine tk 0 ?_
        refine tk 1 ?_
        refine tk 2 ?_
        refine tk 3 ?_
        refine tk 4 ?_
        refine tk 5 ?_
        refine wpAnyH_ready (rs := [6]) (by kernel_rfl) (by simp) ?_
        refine AllReadyH.cons rfl (fun KK hK => ?_) AllReadyH.nil
        simp only [xa, xb, xc]
        go_simp
        refine (HC.out _ (HE.out.trans hHeld.2.2)).mono ?_
        rintro e V7 ⟨rfl, q7⟩
        refine hK.out _ _ ?hS124 (fun hHeld2 => ?rest124)
        case hS124 => exact ⟨q7.cell hHeld.1 (.inr (Nat.zero_le _)), q7.cell hHeld.2.1 (.inr (Nat.zero_le _)), hHeld.2.2.trans q7⟩
        clear q7
        clear hK KK
        (try clear hHeld)
        have hHeld := hHeld2
        clear hHeld2
        (try simp only [Act.put, xa, xb, xc, xd, xe, xf])
        refine wpAnyH_ready (rs := [7]) (by kernel_rfl) (by simp) ?_
        refine AllReadyH.cons rfl (fun KK hK => ?_) AllReadyH.nil
        simp only [xa, xb, xc]
        go_simp
        refine (fail_ok _ _).mono ?_
        rintro e V8 ⟨rfl, q8⟩
        refine hK.out _ _ ?hS125 (fun hHeld2 => ?rest125)
        case hS125 => exact ⟨q8.cell hHeld.1 (.inr (Nat.zero_le _)), q8.cell hHeld.2.1 (.inr (Nat.zero_le _)), hHeld.2.2.trans q8⟩
        clear q8
        clear hK KK
        (try clear hHeld)
        have hHeld := hHeld2
        clear hHeld2
        (try simp only [Act.put, xa, xb, xc, xd, xe, xf])
        refine wpAnyH_done (by kernel_rfl) ?_ _
        have fB2 := hHeld.2.2.heap HfB.out (.inr (Nat.zero_le _))
        have HE2 := hid_mk (HE.out.trans hHeld.2.2)
        have fR2 := HE2.out.heap fR.out (.inr (Nat.zero_le _))
        obtain ⟨z0', z1', z2', z3', z4', z5'⟩ := blk5 fB2
        obtain ⟨v0, v1, v2, v3, v4, v5⟩ := blk5 fR2
        have HR2 := hid_mk fR2
        clear hHeld fR2 fB2 y0 y1 y2 y3 y4 y5 hH9
        go_wp2
        refine retBlk1 Tryd.results14 rfl rfl (blk_set HR2.out) ⟨rfl, (HO2.out.trans HE2.out).set5 (.inr (by have := Hgv.out; omega)) _ _ _ _ _⟩
      · exact AllReadyH.nil
    · exact AllReadyH.nil
  · refine AllReadyH.cons rfl (fun KK hK => ?_) ?_
    · simp only [xa, xb, xc]
      go_simp
      obtain ⟨gA, hgf⟩ : ∃ g, Z1.heap.size = g := ⟨_, rfl⟩
      obtain ⟨Z1A, hY⟩ : ∃ V, Z1.alloc (.cells #[.int .i64 0, .int .i64 0, .int .i64 0, .int .i64 0, .int .i64 0] 49) = V := ⟨_, rfl⟩
      have qA : Out 0 0 Z1 Z1A := by rw [← hY]; exact (Out.refl 0 0 _).alloc _
      have fA : Z1A.heap[gA]? = some (.cells #[.int .i64 0, .int .i64 0, .int .i64 0, .int .i64 0, .int .i64 0] 49 (0, 0)) := by rw [← hY, ← hgf]; exact heap_alloc_new _ _
      have hgA : V2.heap.size ≤ gA := by have := O.size; omega
      (try rw [hY])
      (try rw [hgf])
      clear hY hgf
      replace O := O.trans qA
      refine hK.out _ _ ?hS126 (fun hHeld2 => ?rest126)
      case hS126 => exact ⟨qA.cell hHeld.1 (.inr (Nat.zero_le _)), qA.cell hHeld.2 (.inr (Nat.zero_le _))⟩
      clear qA
      clear hK KK
      (try clear hHeld)
      have hHeld := hHeld2
      clear hHeld2
      (try simp only [Act.put, xa, xb, xc, xd, xe, xf])
      refine wpAnyH_ready (rs := [6]) (by kernel_rfl) (by simp) ?_
      refine AllReadyH.cons rfl (fun KK hK => ?_) ?_
      · simp only [xa, xb, xc]
        go_simp
        refine (HB.out _ O).mono ?_
        rintro e Z1AC ⟨rfl, q1⟩
        replace O := O.trans q1
        replace fA := q1.heap fA (.inr (Nat.zero_le _))
        refine hK.out _ _ ?hS127 (fun hHeld2 => ?rest127)
        case hS127 => exact ⟨q1.cell hHeld.1 (.inr (Nat.zero_le _)), q1.cell hHeld.2 (.inr (Nat.zero_le _))⟩
        clear q1
        clear hK KK
        (try clear hHeld)
        have hHeld := hHeld2
        clear hHeld2
        (try simp only [Act.put, xa, xb, xc, xd, xe, xf])
        refine tk 7 ?_
        refine tk 8 ?_
        refine tk 9 ?_
        refine wpAnyH_ready (rs := [11]) (by kernel_rfl) (by simp) ?_
        refine AllReadyH.cons rfl (fun KK hK => ?_) ?_
        · simp only [xa, xb, xc]
          obtain ⟨y0, y1, y2, y3, y4, y5⟩ := blk5 fA
          go_simp
          clear y0 y1 y2 y3 y4 y5
          obtain ⟨Z1ACS, hY⟩ : ∃ V, (((((Z1AC.setCell ⟨gA, 0, none⟩ (.int .i64 m)).setCell ⟨gA, 1, none⟩ (.int .i64 t1)).setCell ⟨gA, 2, none⟩ (.int .i64 t2)).setCell ⟨gA, 3, none⟩ (.int .i64 t3)).setCell ⟨gA, 4, none⟩ (.int .i64 t4)) = V := ⟨_, rfl⟩
          have qS : Out gA (gA + 1) Z1AC Z1ACS := by rw [← hY]; exact (((((Out.refl _ _ _).setCell (p := ⟨gA, 0, none⟩) (.inl ⟨Nat.le_refl _, Nat.lt_succ_self _⟩) _).setCell (p := ⟨gA, 1, none⟩) (.inl ⟨Nat.le_refl _, Nat.lt_succ_self _⟩) _).setCell (p := ⟨gA, 2, none⟩) (.inl ⟨Nat.le_refl _, Nat.lt_succ_self _⟩) _).setCell (p := ⟨gA, 3, none⟩) (.inl ⟨Nat.le_refl _, Nat.lt_succ_self _⟩) _).setCell (p := ⟨gA, 4, none⟩) (.inl ⟨Nat.le_refl _, Nat.lt_succ_self _⟩) _
          replace O : Out 0 0 V2 Z1ACS := by rw [← hY]; exact ((((O.setCell (p := ⟨gA, 0, none⟩) (.inr hgA) _).setCell (p := ⟨gA, 1, none⟩) (.inr hgA) _).setCell (p := ⟨gA, 2, none⟩) (.inr hgA) _).setCell (p := ⟨gA, 3, none⟩) (.inr hgA) _).setCell (p := ⟨gA, 4, none⟩) (.inr hgA) _
          have fB : Z1ACS.heap[gA]? = some (.cells #[.int .i64 m, .int .i64 t1, .int .i64 t2, .int .i64 t3, .int .i64 t4] 49 (0, 0)) := by rw [← hY]; simp [World.setCell, Array.getElem?_modify, fA]
          (try rw [hY])
          clear hY fA
          refine hK.out _ _ ?hS131 (fun hHeld2 => ?rest131)
          case hS131 => exact ⟨qS.cell hHeld.1 (.inl (by have := hlow; omega)), qS.cell hHeld.2 (.inl (by have := hlow; omega))⟩
          clear qS
          clear hK KK
          (try clear hHeld)
          have hHeld := hHeld2
          clear hHeld2
          (try simp only [Act.put, xa, xb, xc, xd, xe, xf])
          refine tk 12 ?_
          refine wpAnyH_done (by kernel_rfl) ?_ _
          have HE := hid_mk O
          have HfB := hid_mk fB
          have HgA := hid_mk hgA
          obtain ⟨x0, x1, x2, x3⟩ := val_facts (O.heap fV.out (.inr (Nat.zero_le _)))
          clear O fB hHeld hgA
          go_wp2_with fail
          refine (want_yes _ _).mono ?_
          rintro e V9 ⟨rfl, he⟩
          rw [he]
          clear he V9
          go_wp2_with fail
          clear x0 x1 x2 x3
          obtain ⟨y0, y1, y2, y3, y4, y5⟩ := blk5 HfB.out
          have hH9 := HE.out.cell hH' (.inr (Nat.zero_le _))
          refine wp_region_held_drew (S := fun w' => w'.cell? ⟨hb, 0, none⟩ = some (.pointer (some ⟨s 14, 0, none⟩)) ∧ w'.cell? ⟨gA, 0, none⟩ = some (.int .i64 m) ∧ Out 0 0 Z1ACS w') (by kernel_rfl) ?hS133 (fun hHeld => ?rest133)
          case hS133 => exact ⟨hH9, y0, (Out.refl 0 0 _).drew⟩
          refine tk 0 ?_
          refine tk 1 ?_
          refine tk 2 ?_
          refine tk 3 ?_
          refine tk 4 ?_
          refine tk 5 ?_
          refine wpAnyH_ready (rs := [6]) (by kernel_rfl) (by simp) ?_
          refine AllReadyH.cons rfl (fun KK hK => ?_) AllReadyH.nil
          simp only [xa, xb, xc]
          go_simp
          refine (HC.out _ (HE.out.trans hHeld.2.2)).mono ?_
          rintro e V7 ⟨rfl, q7⟩
          refine hK.out _ _ ?hS140 (fun hHeld2 => ?rest140)
          case hS140 => exact ⟨q7.cell hHeld.1 (.inr (Nat.zero_le _)), q7.cell hHeld.2.1 (.inr (Nat.zero_le _)), hHeld.2.2.trans q7⟩
          clear q7
          clear hK KK
          (try clear hHeld)
          have hHeld := hHeld2
          clear hHeld2
          (try simp only [Act.put, xa, xb, xc, xd, xe, xf])
          refine wpAnyH_ready (rs := [7]) (by kernel_rfl) (by simp) ?_
          refine AllReadyH.cons rfl (fun KK hK => ?_) AllReadyH.nil
          simp only [xa, xb, xc]
          go_simp
          refine (fail_ok _ _).mono ?_
          rintro e V8 ⟨rfl, q8⟩
          refine hK.out _ _ ?hS141 (fun hHeld2 => ?rest141)
          case hS141 => exact ⟨q8.cell hHeld.1 (.inr (Nat.zero_le _)), q8.cell hHeld.2.1 (.inr (Nat.zero_le _)), hHeld.2.2.trans q8⟩
          clear q8
          clear hK KK
          (try clear hHeld)
          have hHeld := hHeld2
          clear hHeld2
          (try simp only [Act.put, xa, xb, xc, xd, xe, xf])
          refine wpAnyH_done (by kernel_rfl) ?_ _
          have fB2 := hHeld.2.2.heap HfB.out (.inr (Nat.zero_le _))
          have HE2 := hid_mk (HE.out.trans hHeld.2.2)
          have fR2 := HE2.out.heap fR.out (.inr (Nat.zero_le _))
          obtain ⟨z0', z1', z2', z3', z4', z5'⟩ := blk5 fB2
          obtain ⟨v0, v1, v2, v3, v4, v5⟩ := blk5 fR2
          have HR2 := hid_mk fR2
          clear hHeld fR2 fB2 y0 y1 y2 y3 y4 y5 hH9
          go_wp2
          refine retBlk1 Tryd.results14 rfl rfl (blk_set HR2.out) ⟨rfl, (HO2.out.trans HE2.out).set5 (.inr (by have := Hgv.out; omega)) _ _ _ _ _⟩
        · exact AllReadyH.nil
      · exact AllReadyH.nil
    · exact AllReadyH.nil
set_option maxRecDepth 100000 in
set_option maxHeartbeats 8000000 in
theorem open_wrong (hr : RawAt w lo hi s n cap r) (hA : InArena n r) (hH : w.cell? ⟨hb, 0, none⟩ = some (.pointer (some ⟨s 14, 0, none⟩))) (k m : Int) {t1 t2 t3 t4 : Int} (hM : r.M m = some (t1, t2, t3, t4)) (hk : k = 2) (hc : chkE r m ≠ 0) : Calls Tryd.prog 14 #[.pointer (some ⟨hb, 0, none⟩), .agg #[.int .i64 k, .int .i64 m]] w fun e w' => e = .panicked [stopP (chkE r m) (chkA r m)] ∧ Out 0 0 w w' := by
  subst hk
  have HC0 := hid_mk hc
  clear hc
  have fV := hid_mk (two_first (w := w) (o := .cells #[.int .i64 2, .int .i64 m] 31) (o2 := .cells #[.int .i64 0, .int .i64 0, .int .i64 0, .int .i64 0, .int .i64 0] 49))
  have fR := hid_mk (two_second (w := w) (o := .cells #[.int .i64 2, .int .i64 m] 31) (o2 := .cells #[.int .i64 0, .int .i64 0, .int .i64 0, .int .i64 0, .int .i64 0] 49))
  have HO2 := hid_mk (((Out.refl 0 0 w).alloc (.cells #[.int .i64 2, .int .i64 m] 31)).alloc (.cells #[.int .i64 0, .int .i64 0, .int .i64 0, .int .i64 0, .int .i64 0] 49))
  have Hr := hid_mk hr
  have HM := hid_mk hM
  have HA := hid_mk hA
  obtain ⟨gv, hgv⟩ : ∃ g, w.heap.size = g := ⟨_, rfl⟩
  have Hgv := hid_mk hgv
  obtain ⟨V2, hV2⟩ : ∃ V, (w.alloc (.cells #[.int .i64 2, .int .i64 m] 31)).alloc (.cells #[.int .i64 0, .int .i64 0, .int .i64 0, .int .i64 0, .int .i64 0] 49) = V := ⟨_, rfl⟩
  rw [hV2, hgv] at fV fR
  rw [hV2] at HO2
  have hH' := HO2.out.cell hH (.inr (Nat.zero_le _))
  clear hH hr hM hA
  obtain ⟨u0, u1, u2, u3⟩ := val_facts fV.out
  have hlow : hb < V2.heap.size ∧ gv < V2.heap.size := ⟨cell_lt hH', cell_lt u1⟩
  have Hlow := hid_mk hlow
  have HRlt : Hid (gv + 1 < V2.heap.size) := heap_lt fR.out
  go_enter Tryd.func14, Tryd.ntmps14
  go_wp2_with fail
  (try rw [hV2])
  (try rw [hgv])
  clear hV2 hgv
  have HB : Hid (∀ V, Out 0 0 V2 V → Calls Tryd.prog 31 #[.pointer (some ⟨s 14, 0, none⟩), .int .i64 m] V fun e w' => e = .returned (.tuple #[.agg #[.int .i64 m, .int .i64 t1, .int .i64 t2, .int .i64 t3, .int .i64 t4], .bool true]) ∧ Out 0 0 V w') := fun V o => block_some (Hr.out.quiet (HO2.out.trans o)) HM.out
  have HC : Hid (∀ V, Out 0 0 V2 V → Calls Tryd.prog 32 #[.pointer (some ⟨s 14, 0, none⟩), .int .i64 m] V fun e w' => e = .returned (.agg #[.int .i64 (chkE r m), .int .i64 (chkA r m)]) ∧ Out 0 0 V w') := fun V o => by
    have q := check_any (Hr.out.quiet (HO2.out.trans o)) HA.out m
    exact q
  refine wp_region_held_drew (S := fun w' => w'.cell? ⟨hb, 0, none⟩ = some (.pointer (some ⟨s 14, 0, none⟩)) ∧ w'.cell? ⟨gv, 1, none⟩ = some (.int .i64 m)) (by kernel_rfl) ?hS142 (fun hHeld => ?rest142)
  case hS142 => exact ⟨hH', u1⟩
  obtain ⟨Z1, hZ⟩ : ∃ Z, V2.drew = Z := ⟨_, rfl⟩
  have O : Out 0 0 V2 Z1 := by rw [← hZ]; exact (Out.refl 0 0 _).drew
  rw [hZ] at hHeld ⊢
  clear hZ
  refine tk 0 ?_
  refine tk 1 ?_
  refine tk 2 ?_
  refine tk 3 ?_
  refine tk 4 ?_
  refine tk 5 ?_
  refine wpAnyH_ready (rs := [6, 10]) (by kernel_rfl) (by simp) ?_
  refine AllReadyH.cons rfl (fun KK hK => ?_) ?_
  · simp only [xa, xb, xc]
    go_simp
    refine (HB.out _ O).mono ?_
    rintro e Z1C ⟨rfl, q1⟩
    replace O := O.trans q1
    refine hK.out _ _ ?hS149 (fun hHeld2 => ?rest149)
    case hS149 => exact ⟨q1.cell hHeld.1 (.inr (Nat.zero_le _)), q1.cell hHeld.2 (.inr (Nat.zero_le _))⟩
    clear q1
    clear hK KK
    (try clear hHeld)
    have hHeld := hHeld2
    clear hHeld2
    (try simp only [Act.put, xa, xb, xc, xd, xe, xf])
    refine tk 7 ?_
    refine tk 8 ?_
    refine tk 9 ?_
    refine wpAnyH_ready (rs := [10]) (by kernel_rfl) (by simp) ?_
    refine AllReadyH.cons rfl (fun KK hK => ?_) ?_
    · simp only [xa, xb, xc]
      go_simp
      obtain ⟨gA, hgf⟩ : ∃ g, Z1C.heap.size = g := ⟨_, rfl⟩
      obtain ⟨Z1CA, hY⟩ : ∃ V, Z1C.alloc (.cells #[.int .i64 0, .int .i64 0, .int .i64 0, .int .i64 0, .int .i64 0] 49) = V := ⟨_, rfl⟩
      have qA : Out 0 0 Z1C Z1CA := by rw [← hY]; exact (Out.refl 0 0 _).alloc _
      have fA : Z1CA.heap[gA]? = some (.cells #[.int .i64 0, .int .i64 0, .int .i64 0, .int .i64 0, .int .i64 0] 49 (0, 0)) := by rw [← hY, ← hgf]; exact heap_alloc_new _ _
      have hgA : V2.heap.size ≤ gA := by have := O.size; omega
      (try rw [hY])
      (try rw [hgf])
      clear hY hgf
      replace O := O.trans qA
      refine hK.out _ _ ?hS153 (fun hHeld2 => ?rest153)
      case hS153 => exact ⟨qA.cell hHeld.1 (.inr (Nat.zero_le _)), qA.cell hHeld.2 (.inr (Nat.zero_le _))⟩
      clear qA
      clear hK KK
      (try clear hHeld)
      have hHeld := hHeld2
      clear hHeld2
      (try simp only [Act.put, xa, xb, xc, xd, xe, xf])
      refine wpAnyH_ready (rs := [11]) (by kernel_rfl) (by simp) ?_
      refine AllReadyH.cons rfl (fun KK hK => ?_) ?_
      · simp only [xa, xb, xc]
        obtain ⟨y0, y1, y2, y3, y4, y5⟩ := blk5 fA
        go_simp
        clear y0 y1 y2 y3 y4 y5
        obtain ⟨Z1CAS, hY⟩ : ∃ V, (((((Z1CA.setCell ⟨gA, 0, none⟩ (.int .i64 m)).setCell ⟨gA, 1, none⟩ (.int .i64 t1)).setCell ⟨gA, 2, none⟩ (.int .i64 t2)).setCell ⟨gA, 3, none⟩ (.int .i64 t3)).setCell ⟨gA, 4, none⟩ (.int .i64 t4)) = V := ⟨_, rfl⟩
        have qS : Out gA (gA + 1) Z1CA Z1CAS := by rw [← hY]; exact (((((Out.refl _ _ _).setCell (p := ⟨gA, 0, none⟩) (.inl ⟨Nat.le_refl _, Nat.lt_succ_self _⟩) _).setCell (p := ⟨gA, 1, none⟩) (.inl ⟨Nat.le_refl _, Nat.lt_succ_self _⟩) _).setCell (p := ⟨gA, 2, none⟩) (.inl ⟨Nat.le_refl _, Nat.lt_succ_self _⟩) _).setCell (p := ⟨gA, 3, none⟩) (.inl ⟨Nat.le_refl _, Nat.lt_succ_self _⟩) _).setCell (p := ⟨gA, 4, none⟩) (.inl ⟨Nat.le_refl _, Nat.lt_succ_self _⟩) _
        replace O : Out 0 0 V2 Z1CAS := by rw [← hY]; exact ((((O.setCell (p := ⟨gA, 0, none⟩) (.inr hgA) _).setCell (p := ⟨gA, 1, none⟩) (.inr hgA) _).setCell (p := ⟨gA, 2, none⟩) (.inr hgA) _).setCell (p := ⟨gA, 3, none⟩) (.inr hgA) _).setCell (p := ⟨gA, 4, none⟩) (.inr hgA) _
        have fB : Z1CAS.heap[gA]? = some (.cells #[.int .i64 m, .int .i64 t1, .int .i64 t2, .int .i64 t3, .int .i64 t4] 49 (0, 0)) := by rw [← hY]; simp [World.setCell, Array.getElem?_modify, fA]
        (try rw [hY])
        clear hY fA
        refine hK.out _ _ ?hS154 (fun hHeld2 => ?rest154)
        case hS154 => exact ⟨qS.cell hHeld.1 (.inl (by have := hlow; omega)), qS.cell hHeld.2 (.inl (by have := hlow; omega))⟩
        clear qS
        clear hK KK
        (try clear hHeld)
        have hHeld := hHeld2
        clear hHeld2
        (try simp only [Act.put, xa, xb, xc, xd, xe, xf])
        refine tk 12 ?_
        refine wpAnyH_done (by kernel_rfl) ?_ _
        have HE := hid_mk O
        have HfB := hid_mk fB
        have HgA := hid_mk hgA
        obtain ⟨x0, x1, x2, x3⟩ := val_facts (O.heap fV.out (.inr (Nat.zero_le _)))
        clear O fB hHeld hgA
        go_wp2_with fail
        refine (want_yes _ _).mono ?_
        rintro e V9 ⟨rfl, he⟩
        rw [he]
        clear he V9
        go_wp2_with fail
        clear x0 x1 x2 x3
        obtain ⟨y0, y1, y2, y3, y4, y5⟩ := blk5 HfB.out
        have hH9 := HE.out.cell hH' (.inr (Nat.zero_le _))
        refine wp_region_held_drew (S := fun w' => w'.cell? ⟨hb, 0, none⟩ = some (.pointer (some ⟨s 14, 0, none⟩)) ∧ w'.cell? ⟨gA, 0, none⟩ = some (.int .i64 m) ∧ Out 0 0 Z1CAS w') (by kernel_rfl) ?hS156 (fun hHeld => ?rest156)
        case hS156 => exact ⟨hH9, y0, (Out.refl 0 0 _).drew⟩
        refine tk 0 ?_
        refine tk 1 ?_
        refine tk 2 ?_
        refine tk 3 ?_
        refine tk 4 ?_
        refine tk 5 ?_
        refine wpAnyH_ready (rs := [6]) (by kernel_rfl) (by simp) ?_
        refine AllReadyH.cons rfl (fun KK hK => ?_) AllReadyH.nil
        simp only [xa, xb, xc]
        go_simp
        refine (HC.out _ (HE.out.trans hHeld.2.2)).mono ?_
        rintro e V7 ⟨rfl, q7⟩
        refine hK.out _ _ ?hS163 (fun hHeld2 => ?rest163)
        case hS163 => exact ⟨q7.cell hHeld.1 (.inr (Nat.zero_le _)), q7.cell hHeld.2.1 (.inr (Nat.zero_le _)), hHeld.2.2.trans q7⟩
        clear q7
        clear hK KK
        (try clear hHeld)
        have hHeld := hHeld2
        clear hHeld2
        (try simp only [Act.put, xa, xb, xc, xd, xe, xf])
        refine wpAnyH_ready (rs := [7]) (by kernel_rfl) (by simp) ?_
        refine AllReadyH.cons rfl (fun KK hK => ?_) AllReadyH.nil
        simp only [xa, xb, xc]
        go_simp
        refine (fail_no HC0.out _ _).mono ?_
        rintro e V8 ⟨rfl, q8⟩
        exact ⟨rfl, rfl, (HO2.out.trans (HE.out.trans hHeld.2.2)).trans q8⟩
      · exact AllReadyH.nil
    · exact AllReadyH.nil
  · refine AllReadyH.cons rfl (fun KK hK => ?_) ?_
    · simp only [xa, xb, xc]
      go_simp
      obtain ⟨gA, hgf⟩ : ∃ g, Z1.heap.size = g := ⟨_, rfl⟩
      obtain ⟨Z1A, hY⟩ : ∃ V, Z1.alloc (.cells #[.int .i64 0, .int .i64 0, .int .i64 0, .int .i64 0, .int .i64 0] 49) = V := ⟨_, rfl⟩
      have qA : Out 0 0 Z1 Z1A := by rw [← hY]; exact (Out.refl 0 0 _).alloc _
      have fA : Z1A.heap[gA]? = some (.cells #[.int .i64 0, .int .i64 0, .int .i64 0, .int .i64 0, .int .i64 0] 49 (0, 0)) := by rw [← hY, ← hgf]; exact heap_alloc_new _ _
      have hgA : V2.heap.size ≤ gA := by have := O.size; omega
      (try rw [hY])
      (try rw [hgf])
      clear hY hgf
      replace O := O.trans qA
      refine hK.out _ _ ?hS165 (fun hHeld2 => ?rest165)
      case hS165 => exact ⟨qA.cell hHeld.1 (.inr (Nat.zero_le _)), qA.cell hHeld.2 (.inr (Nat.zero_le _))⟩
      clear qA
      clear hK KK
      (try clear hHeld)
      have hHeld := hHeld2
      clear hHeld2
      (try simp only [Act.put, xa, xb, xc, xd, xe, xf])
      refine wpAnyH_ready (rs := [6]) (by kernel_rfl) (by simp) ?_
      refine AllReadyH.cons rfl (fun KK hK => ?_) ?_
      · simp only [xa, xb, xc]
        go_simp
        refine (HB.out _ O).mono ?_
        rintro e Z1AC ⟨rfl, q1⟩
        replace O := O.trans q1
        replace fA := q1.heap fA (.inr (Nat.zero_le _))
        refine hK.out _ _ ?hS166 (fun hHeld2 => ?rest166)
        case hS166 => exact ⟨q1.cell hHeld.1 (.inr (Nat.zero_le _)), q1.cell hHeld.2 (.inr (Nat.zero_le _))⟩
        clear q1
        clear hK KK
        (try clear hHeld)
        have hHeld := hHeld2
        clear hHeld2
        (try simp only [Act.put, xa, xb, xc, xd, xe, xf])
        refine tk 7 ?_
        refine tk 8 ?_
        refine tk 9 ?_
        refine wpAnyH_ready (rs := [11]) (by kernel_rfl) (by simp) ?_
        refine AllReadyH.cons rfl (fun KK hK => ?_) ?_
        · simp only [xa, xb, xc]
          obtain ⟨y0, y1, y2, y3, y4, y5⟩ := blk5 fA
          go_simp
          clear y0 y1 y2 y3 y4 y5
          obtain ⟨Z1ACS, hY⟩ : ∃ V, (((((Z1AC.setCell ⟨gA, 0, none⟩ (.int .i64 m)).setCell ⟨gA, 1, none⟩ (.int .i64 t1)).setCell ⟨gA, 2, none⟩ (.int .i64 t2)).setCell ⟨gA, 3, none⟩ (.int .i64 t3)).setCell ⟨gA, 4, none⟩ (.int .i64 t4)) = V := ⟨_, rfl⟩
          have qS : Out gA (gA + 1) Z1AC Z1ACS := by rw [← hY]; exact (((((Out.refl _ _ _).setCell (p := ⟨gA, 0, none⟩) (.inl ⟨Nat.le_refl _, Nat.lt_succ_self _⟩) _).setCell (p := ⟨gA, 1, none⟩) (.inl ⟨Nat.le_refl _, Nat.lt_succ_self _⟩) _).setCell (p := ⟨gA, 2, none⟩) (.inl ⟨Nat.le_refl _, Nat.lt_succ_self _⟩) _).setCell (p := ⟨gA, 3, none⟩) (.inl ⟨Nat.le_refl _, Nat.lt_succ_self _⟩) _).setCell (p := ⟨gA, 4, none⟩) (.inl ⟨Nat.le_refl _, Nat.lt_succ_self _⟩) _
          replace O : Out 0 0 V2 Z1ACS := by rw [← hY]; exact ((((O.setCell (p := ⟨gA, 0, none⟩) (.inr hgA) _).setCell (p := ⟨gA, 1, none⟩) (.inr hgA) _).setCell (p := ⟨gA, 2, none⟩) (.inr hgA) _).setCell (p := ⟨gA, 3, none⟩) (.inr hgA) _).setCell (p := ⟨gA, 4, none⟩) (.inr hgA) _
          have fB : Z1ACS.heap[gA]? = some (.cells #[.int .i64 m, .int .i64 t1, .int .i64 t2, .int .i64 t3, .int .i64 t4] 49 (0, 0)) := by rw [← hY]; simp [World.setCell, Array.getElem?_modify, fA]
          (try rw [hY])
          clear hY fA
          refine hK.out _ _ ?hS170 (fun hHeld2 => ?rest170)
          case hS170 => exact ⟨qS.cell hHeld.1 (.inl (by have := hlow; omega)), qS.cell hHeld.2 (.inl (by have := hlow; omega))⟩
          clear qS
          clear hK KK
          (try clear hHeld)
          have hHeld := hHeld2
          clear hHeld2
          (try simp only [Act.put, xa, xb, xc, xd, xe, xf])
          refine tk 12 ?_
          refine wpAnyH_done (by kernel_rfl) ?_ _
          have HE := hid_mk O
          have HfB := hid_mk fB
          have HgA := hid_mk hgA
          obtain ⟨x0, x1, x2, x3⟩ := val_facts (O.heap fV.out (.inr (Nat.zero_le _)))
          clear O fB hHeld hgA
          go_wp2_with fail
          refine (want_yes _ _).mono ?_
          rintro e V9 ⟨rfl, he⟩
          rw [he]
          clear he V9
          go_wp2_with fail
          clear x0 x1 x2 x3
          obtain ⟨y0, y1, y2, y3, y4, y5⟩ := blk5 HfB.out
          have hH9 := HE.out.cell hH' (.inr (Nat.zero_le _))
          refine wp_region_held_drew (S := fun w' => w'.cell? ⟨hb, 0, none⟩ = some (.pointer (some ⟨s 14, 0, none⟩)) ∧ w'.cell? ⟨gA, 0, none⟩ = some (.int .i64 m) ∧ Out 0 0 Z1ACS w') (by kernel_rfl) ?hS172 (fun hHeld => ?rest172)
          case hS172 => exact ⟨hH9, y0, (Out.refl 0 0 _).drew⟩
          refine tk 0 ?_
          refine tk 1 ?_
          refine tk 2 ?_
          refine tk 3 ?_
          refine tk 4 ?_
          refine tk 5 ?_
          refine wpAnyH_ready (rs := [6]) (by kernel_rfl) (by simp) ?_
          refine AllReadyH.cons rfl (fun KK hK => ?_) AllReadyH.nil
          simp only [xa, xb, xc]
          go_simp
          refine (HC.out _ (HE.out.trans hHeld.2.2)).mono ?_
          rintro e V7 ⟨rfl, q7⟩
          refine hK.out _ _ ?hS179 (fun hHeld2 => ?rest179)
          case hS179 => exact ⟨q7.cell hHeld.1 (.inr (Nat.zero_le _)), q7.cell hHeld.2.1 (.inr (Nat.zero_le _)), hHeld.2.2.trans q7⟩
          clear q7
          clear hK KK
          (try clear hHeld)
          have hHeld := hHeld2
          clear hHeld2
          (try simp only [Act.put, xa, xb, xc, xd, xe, xf])
          refine wpAnyH_ready (rs := [7]) (by kernel_rfl) (by simp) ?_
          refine AllReadyH.cons rfl (fun KK hK => ?_) AllReadyH.nil
          simp only [xa, xb, xc]
          go_simp
          refine (fail_no HC0.out _ _).mono ?_
          rintro e V8 ⟨rfl, q8⟩
          exact ⟨rfl, rfl, (HO2.out.trans (HE.out.trans hHeld.2.2)).trans q8⟩
        · exact AllReadyH.nil
      · exact AllReadyH.nil
    · exact AllReadyH.nil
theorem open_no (hr : RawAt w lo hi s n cap r) (hA : InArena n r) (hH : w.cell? ⟨hb, 0, none⟩ = some (.pointer (some ⟨s 14, 0, none⟩))) (k m : Int) (h : opE r k m ≠ 0) : Calls Tryd.prog 14 #[.pointer (some ⟨hb, 0, none⟩), .agg #[.int .i64 k, .int .i64 m]] w fun e w' => e = .panicked [stopP (opE r k m) (opA r k m)] ∧ Out 0 0 w w' := by
  unfold opE at h
  unfold opE opA
  cases hM : r.M m with
  | none => rw [if_neg (by simp), if_neg (by simp)]; exact open_none hr hA hH k m hM
  | some t =>
    obtain ⟨t1, t2, t3, t4⟩ := t
    by_cases hk : k = 2
    · rw [if_pos ⟨hk, by rw [hM]; simp⟩] at h
      rw [if_pos ⟨hk, by simp⟩, if_pos ⟨hk, by simp⟩]
      exact open_wrong hr hA hH k m hM hk h
    · rw [if_neg (fun x => hk x.1), if_neg (fun x => hk x.1)]
      exact open_kind hr hA hH k m hM hk
theorem open_yes (hr : RawAt w lo hi s n cap r) (hA : InArena n r) (hH : w.cell? ⟨hb, 0, none⟩ = some (.pointer (some ⟨s 14, 0, none⟩))) (k m : Int) (h : opE r k m = 0) : ∃ t1 t2 t3 t4, r.M m = some (t1, t2, t3, t4) ∧ Calls Tryd.prog 14 #[.pointer (some ⟨hb, 0, none⟩), .agg #[.int .i64 k, .int .i64 m]] w fun e w' => e = .returned (.agg #[.int .i64 m, .int .i64 t1, .int .i64 t2, .int .i64 t3, .int .i64 t4]) ∧ Out 0 0 w w' := by
  unfold opE at h
  by_cases c : k = 2 ∧ r.M m ≠ none
  · rw [if_pos c] at h
    obtain ⟨hk, hm⟩ := c
    cases hM : r.M m with
    | none => exact absurd hM hm
    | some t =>
      obtain ⟨t1, t2, t3, t4⟩ := t
      exact ⟨t1, t2, t3, t4, rfl, open_ok hr hA hH k m hM hk h⟩
  · rw [if_neg c] at h; omega
end
end Go.Proofs.YtcpignkjlnjjmaaDoor
