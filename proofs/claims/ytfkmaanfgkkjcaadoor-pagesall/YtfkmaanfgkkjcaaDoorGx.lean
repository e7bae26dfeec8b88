/- a script that is played -/
import Derived.Test.YtfkmaanfgkkjcaaDoorGw
namespace Go.Proofs.YtfkmaanfgkkjcaaDoor
open Go.RowKit
set_option linter.unusedVariables false
set_option linter.unusedSimpArgs false

theorem Pl.loose {B : Nat} {w0 w : World} {L pa pb N i0 i1 : Nat} {D : Nat → Desc} {us : Bool} (h : Pl B w0 w L pa pb N D i0 i1 us) : Pl B w0 w L pa pb N D i0 i1 false := { h with hu := fun e => by cases e }
theorem frozen_alloc {w : World} {a : Addr} (o : Obj) (h : w.frozen? a = false ∧ a.block < w.heap.size) : (w.alloc o).frozen? a = false := by
  obtain ⟨h1, h2⟩ := h
  have e := heap_alloc_old w o h2
  simp only [World.frozen?, e] at h1 ⊢
  exact h1
theorem Pl.quiet2 {B : Nat} {w0 w w' : World} {L pa pb N i0 i1 : Nat} {D : Nat → Desc} {us : Bool} (h : Pl B w0 w L pa pb N D i0 i1 us) (o : Out 0 0 w w') : w'.heap[L]? = some (.cells #[.pointer (some ⟨(D i0).b, 0, none⟩), .pointer (some ⟨(D i1).b, 0, none⟩)] 22 (0, 0)) ∧ L < w'.heap.size ∧ (w'.frozen? ⟨L, 0, none⟩ = false ∧ L < w'.heap.size) ∧ (w'.frozen? ⟨L, 1, none⟩ = false ∧ L < w'.heap.size) := by
  have hb := o.heap h.hL (.inr (Nat.zero_le _))
  exact ⟨hb, heap_lt hb, ⟨frozen_at hb 0, heap_lt hb⟩, ⟨frozen_at hb 1, heap_lt hb⟩⟩
theorem Pl.copied1 {B : Nat} {w0 w w5 w6 : World} {L pa pb N i0 i1 bc bwc br bwr n : Nat} {S : Nat → Int × Int × Int} {D : Nat → Desc} {us : Bool} (h : Pl B w0 w L pa pb N D i0 i1 us) (c5 : TblAt 70 w5 bc bwc n S) (o5 : Out 0 0 w w5) (l5 : w.heap.size ≤ bc ∧ w.heap.size ≤ bwc)
    (c6 : TblAt 61 w6 br bwr n S) (o6 : Out 0 0 w5 w6) (l6 : w5.heap.size ≤ br ∧ w5.heap.size ≤ bwr) :
    ∃ D', Pl B w0 ((w6.setCell ⟨L, 1, none⟩ (.pointer (some ⟨w6.heap.size, 0, none⟩))).alloc (.cells #[.pointer (some ⟨bc, 0, none⟩), .pointer (some ⟨br, 0, none⟩), .slice none 0 0, .slice none 0 0, .slice none 0 0, .slice none 0 0] 59)) L pa pb (N + 1) D' i0 N us := by
  have hLt := heap_lt h.hL
  have s5 := o5.size
  have s6 := o6.size
  have n5 := c5.nums
  have n6 := c6.nums
  obtain ⟨hb6, hL6, _⟩ := h.quiet2 (o5.trans o6)
  have y8 : (w6.setCell ⟨L, 1, none⟩ (.pointer (some ⟨w6.heap.size, 0, none⟩))).heap.size = w6.heap.size := by simp [World.setCell]
  have hnew := heap_alloc_new (w6.setCell ⟨L, 1, none⟩ (.pointer (some ⟨w6.heap.size, 0, none⟩))) (.cells #[.pointer (some ⟨bc, 0, none⟩), .pointer (some ⟨br, 0, none⟩), .slice none 0 0, .slice none 0 0, .slice none 0 0, .slice none 0 0] 59)
  rw [y8] at hnew
  have o7 : Out L (L + 1) w6 ((w6.setCell ⟨L, 1, none⟩ (.pointer (some ⟨w6.heap.size, 0, none⟩))).alloc (.cells #[.pointer (some ⟨bc, 0, none⟩), .pointer (some ⟨br, 0, none⟩), .slice none 0 0, .slice none 0 0, .slice none 0 0, .slice none 0 0] 59)) := ((Out.refl _ _ _).setCell (.inl ⟨Nat.le_refl _, Nat.lt_succ_self _⟩) _).alloc _
  have hL7 : ((w6.setCell ⟨L, 1, none⟩ (.pointer (some ⟨w6.heap.size, 0, none⟩))).alloc (.cells #[.pointer (some ⟨bc, 0, none⟩), .pointer (some ⟨br, 0, none⟩), .slice none 0 0, .slice none 0 0, .slice none 0 0, .slice none 0 0] 59)).heap[L]? = some (.cells #[.pointer (some ⟨(D i0).b, 0, none⟩), .pointer (some ⟨w6.heap.size, 0, none⟩)] 22 (0, 0)) := by
    rw [heap_alloc_old _ _ (by rw [y8]; exact hL6)]
    simp only [World.setCell, Array.getElem?_modify, if_true, hb6]
    rfl
  obtain ⟨W7, hW7⟩ : ∃ W7, (w6.setCell ⟨L, 1, none⟩ (.pointer (some ⟨w6.heap.size, 0, none⟩))).alloc (.cells #[.pointer (some ⟨bc, 0, none⟩), .pointer (some ⟨br, 0, none⟩), .slice none 0 0, .slice none 0 0, .slice none 0 0, .slice none 0 0] 59) = W7 := ⟨_, rfl⟩
  rw [hW7] at hnew o7 hL7 ⊢
  have hB := (h.pk 0 (by have := h.n2; omega)).hB
  obtain ⟨p1, p2⟩ := pair_at (B := B) (s0 := w.heap.size) hnew ((c5.quiet o6).kept o7 (by omega) (by omega)) (c6.kept o7 (by omega) (by omega)) hB (by omega) (by omega) (by omega)
  exact ⟨_, h.more (j0 := i0) (j1 := N) (d := newD w6.heap.size bc bwc br bwr n S) (((o5.trans o6).any _ _).trans o7) (by rw [updD_other (by have := h.h0; omega), updD_self]; exact hL7) (by have := h.h0; omega) (by omega) p1 p2 (fun _ => rfl)⟩
theorem Pl.copied0 {B : Nat} {w0 w w5 w6 : World} {L pa pb N i0 i1 bc bwc br bwr n : Nat} {S : Nat → Int × Int × Int} {D : Nat → Desc} {us : Bool} (h : Pl B w0 w L pa pb N D i0 i1 us) (c5 : TblAt 70 w5 bc bwc n S) (o5 : Out 0 0 w w5) (l5 : w.heap.size ≤ bc ∧ w.heap.size ≤ bwc)
    (c6 : TblAt 61 w6 br bwr n S) (o6 : Out 0 0 w5 w6) (l6 : w5.heap.size ≤ br ∧ w5.heap.size ≤ bwr) :
    ∃ D', Pl B w0 ((w6.setCell ⟨L, 0, none⟩ (.pointer (some ⟨w6.heap.size, 0, none⟩))).alloc (.cells #[.pointer (some ⟨bc, 0, none⟩), .pointer (some ⟨br, 0, none⟩), .slice none 0 0, .slice none 0 0, .slice none 0 0, .slice none 0 0] 59)) L pa pb (N + 1) D' N i1 us := by
  have hLt := heap_lt h.hL
  have s5 := o5.size
  have s6 := o6.size
  have n5 := c5.nums
  have n6 := c6.nums
  obtain ⟨hb6, hL6, _⟩ := h.quiet2 (o5.trans o6)
  have y8 : (w6.setCell ⟨L, 0, none⟩ (.pointer (some ⟨w6.heap.size, 0, none⟩))).heap.size = w6.heap.size := by simp [World.setCell]
  have hnew := heap_alloc_new (w6.setCell ⟨L, 0, none⟩ (.pointer (some ⟨w6.heap.size, 0, none⟩))) (.cells #[.pointer (some ⟨bc, 0, none⟩), .pointer (some ⟨br, 0, none⟩), .slice none 0 0, .slice none 0 0, .slice none 0 0, .slice none 0 0] 59)
  rw [y8] at hnew
  have o7 : Out L (L + 1) w6 ((w6.setCell ⟨L, 0, none⟩ (.pointer (some ⟨w6.heap.size, 0, none⟩))).alloc (.cells #[.pointer (some ⟨bc, 0, none⟩), .pointer (some ⟨br, 0, none⟩), .slice none 0 0, .slice none 0 0, .slice none 0 0, .slice none 0 0] 59)) := ((Out.refl _ _ _).setCell (.inl ⟨Nat.le_refl _, Nat.lt_succ_self _⟩) _).alloc _
  have hL7 : ((w6.setCell ⟨L, 0, none⟩ (.pointer (some ⟨w6.heap.size, 0, none⟩))).alloc (.cells #[.pointer (some ⟨bc, 0, none⟩), .pointer (some ⟨br, 0, none⟩), .slice none 0 0, .slice none 0 0, .slice none 0 0, .slice none 0 0] 59)).heap[L]? = some (.cells #[.pointer (some ⟨w6.heap.size, 0, none⟩), .pointer (some ⟨(D i1).b, 0, none⟩)] 22 (0, 0)) := by
    rw [heap_alloc_old _ _ (by rw [y8]; exact hL6)]
    simp only [World.setCell, Array.getElem?_modify, if_true, hb6]
    rfl
  obtain ⟨W7, hW7⟩ : ∃ W7, (w6.setCell ⟨L, 0, none⟩ (.pointer (some ⟨w6.heap.size, 0, none⟩))).alloc (.cells #[.pointer (some ⟨bc, 0, none⟩), .pointer (some ⟨br, 0, none⟩), .slice none 0 0, .slice none 0 0, .slice none 0 0, .slice none 0 0] 59) = W7 := ⟨_, rfl⟩
  rw [hW7] at hnew o7 hL7 ⊢
  have hB := (h.pk 0 (by have := h.n2; omega)).hB
  obtain ⟨p1, p2⟩ := pair_at (B := B) (s0 := w.heap.size) hnew ((c5.quiet o6).kept o7 (by omega) (by omega)) (c6.kept o7 (by omega) (by omega)) hB (by omega) (by omega) (by omega)
  exact ⟨_, h.more (j0 := N) (j1 := i1) (d := newD w6.heap.size bc bwc br bwr n S) (((o5.trans o6).any _ _).trans o7) (by rw [updD_self, updD_other (by have := h.h1; omega)]; exact hL7) (by omega) (by have := h.h1; omega) p1 p2 (fun _ => rfl)⟩
set_option maxRecDepth 100000 in
set_option maxHeartbeats 40000000 in
theorem plays_some (n k : Nat) (u v : Int) (hu : 10 ≤ u) (hv : v ≤ 12) (n1 : 1 ≤ n) (n2 : n ≤ 4096) (k1 : 1 ≤ k) (k2 : k ≤ 4096) {a : Option Addr} {len cap : Nat} {w : World} (hT : Tab w) (hA : 0 < len → ∃ b off q, a = some ⟨b, off, none⟩ ∧ Steps w b off len q) :
    Calls Tryd.prog 13 #[.int .i64 n, .int .i64 k, .slice a len cap, .int .i64 u, .int .i64 v] w fun e w' => e = .returned (.bool true) ∧ Below w.heap.size w w' := by
  obtain ⟨B, hB⟩ : ∃ B, w.heap.size = B := ⟨_, rfl⟩
  have HB := hid_mk hB
  have HT := hid_mk hT
  have HQ := hid_mk hA
  have HB2 : Hid (2 ≤ B) := by show 2 ≤ B; have := hT.lt; omega
  have HM := hid_mk (made_yes (B := B) hT (Nat.le_of_eq hB.symm) n n1 n2)
  have HKk : Hid (1 ≤ k ∧ k ≤ 4096) := ⟨k1, k2⟩
  clear hT hA n1 n2 k1 k2 hB
  go_enter Tryd.func13, Tryd.ntmps13
  go_wp2_with fail
  refine HM.out.mono ?_
  rintro e w1 ⟨da, rfl, hpa, hoa, hua, ho1⟩
  have HPa := hid_mk hpa
  have HOa := hid_mk hoa
  have HUa := hid_mk hua
  have HO1 := hid_mk ho1
  have HM' := hid_mk (made_yes (B := B) (HT.out.quiet ho1) (by have := HB.out; have := ho1.size; omega) k HKk.out.1 HKk.out.2)
  clear hpa hoa hua ho1 HM
  go_wp2_with fail
  refine HM'.out.mono ?_
  rintro e w2 ⟨db, rfl, hpb, hob, hub, ho2⟩
  have HPb := hid_mk hpb
  have HOb := hid_mk hob
  have HUb := hid_mk hub
  have HO2 := hid_mk ho2
  have HAl := hid_mk (alive_any (HT.out.quiet (HO1.out.trans ho2)))
  clear hpb hob hub ho2 HM'
  go_wp2_with fail
  refine HAl.out.mono ?_
  rintro e w3 ⟨rfl, ho3⟩
  have HO3 := hid_mk ho3
  clear ho3 HAl
  have HPl := hid_mk (Pl.start HB.out HPa.out HOa.out HO1.out HPb.out HOb.out HO2.out HO3.out HUa.out HUb.out)
  obtain ⟨L, hL⟩ : ∃ L, w3.heap.size = L := ⟨_, rfl⟩
  obtain ⟨w4, hw4⟩ : ∃ w4, w3.alloc (.cells #[.pointer (some ⟨da.b, 0, none⟩), .pointer (some ⟨db.b, 0, none⟩)] 22) = w4 := ⟨_, rfl⟩
  rw [hL, hw4] at HPl
  generalize da.b = pa at *
  generalize db.b = pb at *
  have HQ1 : Hid (0 < len → ∃ b off q, a = some ⟨b, off, none⟩ ∧ ∀ w', Below B w w' → Steps w' b off len q) := fun h => by
    obtain ⟨b, off, q, e, hq⟩ := HQ.out h
    exact ⟨b, off, q, e, fun w' g => hq.kept g (Nat.le_of_eq HB.out)⟩
  clear HPa HOa HUa HO1 HPb HOb HUb HO2 HO3 HKk HQ
  go_wp2_with fail
  clear hw4
  go_loopw [16] (fun y wr => ∃ (i N i0 i1 : Nat) (D : Nat → Desc), i ≤ len ∧ i ≤ 400 ∧ y = .int .i64 i ∧ Pl B w wr L pa pb N D i0 i1 true) (fun y _ => 400 - (intOf y).toNat)
  case atStart =>
    obtain ⟨D, hD⟩ := HPl.out
    exact ⟨0, 2, 0, 1, D, Nat.zero_le _, Nat.zero_le _, rfl, hD⟩
  case round =>
    clear HPl
    obtain ⟨i, N, i0, i1, D, i1', i2, rfl, hPr⟩ := hrel
    have HPr := hid_mk hPr
    have b0 : (0 : Int) ≤ (i : Int) := by omega
    by_cases hgo : i < len ∧ i < 400
    · obtain ⟨g1, g2⟩ := hgo
      obtain ⟨sb, off, q, rfl, hq⟩ := HQ1.out (by omega)
      obtain ⟨c0, c1, c2, _⟩ := hq wr hPr.bel i g1
      generalize (q i).1 = z at *
      generalize (q i).2.1 = kd at *
      generalize (q i).2.2 = x at *
      have b1 : (i : Int) < (len : Int) := by omega
      have b2 : (i : Int) < 400 := by omega
      have oG : Out 0 0 wr (wr.alloc (.cells #[.int .i64 z, .int .i64 kd, .int .i64 x] 28)) := (Out.refl _ _ _).alloc _
      have hx := heap_alloc_new wr (.cells #[.int .i64 z, .int .i64 kd, .int .i64 x] 28)
      obtain ⟨X, hX⟩ : ∃ X, wr.heap.size = X := ⟨_, rfl⟩
      obtain ⟨WG, hW⟩ : ∃ WG, wr.alloc (.cells #[.int .i64 z, .int .i64 kd, .int .i64 x] 28) = WG := ⟨_, rfl⟩
      rw [hW] at oG hx
      rw [hX] at hx
      obtain ⟨D', hPG, -⟩ := hPr.quiet oG
      have HPG := hid_mk hPG
      have HLX : Hid (L ≠ X) := by show L ≠ X; have := heap_lt hPr.hL; omega
      obtain ⟨x0, x1, x2⟩ := op_cells hx
      obtain ⟨y0, y1, yf0, yf1⟩ := hPG.cells
      clear hPr HPr oG hx hq HQ1 hPG
      rcases bit01 z with hz | hz
      · by_cases hk1 : 1 ≤ kd ∧ kd ≤ 3
        · obtain ⟨kd1, kd2⟩ := hk1
          have HU := hid_mk (turned_any (HPG.out.pk i0 HPG.out.h0) (HPG.out.tab HT.out HB2.out) z kd x ⟨kd1, kd2⟩)
          go_wp2_with fail
          refine HU.out.mono ?_
          rintro e w5 ⟨rfl, d5, ha, hu5⟩
          have HP5 := hid_mk (HPG.out.act HPG.out.h0 ha (fun h => hu5.trans (HPG.out.hu h i0 HPG.out.h0)))
          clear ha hu5 HU
          go_wp2
          go_roundw
          case rel => exact ⟨i + 1, N, i0, i1, _, by omega, by omega, by go_num, HP5.out⟩
          case measure => simp [intOf]; omega
        · by_cases hk4 : kd = 4
          · subst hk4
            have HPi := hid_mk (HPG.out.pk i0 HPG.out.h0)
            obtain ⟨t0, t1⟩ := HPi.out.cells
            have HCp := hid_mk (copy_any HPi.out.2.2.1 (by have := HB2.out; have := HPi.out.hB; omega))
            have HCr : Hid (∀ w', Out 0 0 WG w' → Calls Tryd.prog 32 #[.pointer (some ⟨(D' i0).br, 0, none⟩)] w' fun e w'' => ∃ b' bw', e = .returned (.pointer (some ⟨b', 0, none⟩)) ∧ TblAt 61 w'' b' bw' (D' i0).n (D' i0).S ∧ w'.heap.size ≤ b' ∧ w'.heap.size ≤ bw' ∧ Out 0 0 w' w'') := fun w' o => refCopy_any (HPi.out.quiet o).2.2.2.1 (by have := HB2.out; have := (HPi.out.quiet o).hB; omega)
            have HLb : Hid ((D' i0).b ≠ L) := fun e => HPG.out.nL i0 HPG.out.h0 (.inl (by rw [← e, HPi.out.col0.1]; decide))
            have hw0 : IntKind.i64.wrap 0 = 0 := by decide
            have hw1 : IntKind.i64.wrap 1 = 1 := by decide
            go_wp2_with fail
            refine HCp.out.mono ?_
            rintro e w5 ⟨bc, bwc, rfl, hc5, l1, l2, ho5⟩
            have HC5 := hid_mk hc5
            have HO5 := hid_mk ho5
            have HL5 : Hid (WG.heap.size ≤ bc ∧ WG.heap.size ≤ bwc) := ⟨l1, l2⟩
            have v0 := ho5.cell x0 (.inr (Nat.zero_le _))
            have v1 := ho5.cell t1 (.inr (Nat.zero_le _))
            have vL0 := ho5.cell y0 (.inr (Nat.zero_le _))
            have vL1 := ho5.cell y1 (.inr (Nat.zero_le _))
            clear hc5 l1 l2 ho5 HCp hk1
            go_wp2_with fail
            refine wp_region_held_drew (S := fun w' => w'.cell? ⟨X, 0, none⟩ = some (.int .i64 z) ∧ w'.cell? ⟨(D' i0).b, 1, none⟩ = some (.pointer (some ⟨(D' i0).br, 0, none⟩))) (by kernel_rfl) ?hS1 (fun hHeld => ?rest1)
            case hS1 => exact ⟨v0, v1⟩
            refine wpAnyH_take (i := 0) (v := ?v2) rfl (by kernel_rfl) (by kernel_rfl) (by kernel_rfl) (fun _ _ _ h => h) (Or.inl ⟨by rfl, ?hy2⟩) (by assumption) ?rest2
            case hy2 => (intro w hSw; (try dsimp only at hSw); simp only [List.getElem_toArray, List.getElem_cons_zero, List.getElem_cons_succ]; go_simp; (try with_reducible rfl))
            (try simp only [Act.put, List.getElem_toArray, List.getElem_cons_zero, List.getElem_cons_succ, List.setIfInBounds_toArray, List.set_cons_zero, List.set_cons_succ])
            refine wpAnyH_take (i := 1) (v := ?v3) rfl (by kernel_rfl) (by kernel_rfl) (by kernel_rfl) (fun _ _ _ h => h) (Or.inl ⟨by rfl, ?hy3⟩) (by assumption) ?rest3
            case hy3 => (intro w hSw; (try dsimp only at hSw); simp only [List.getElem_toArray, List.getElem_cons_zero, List.getElem_cons_succ]; go_simp; (try with_reducible rfl))
            (try simp only [Act.put, List.getElem_toArray, List.getElem_cons_zero, List.getElem_cons_succ, List.setIfInBounds_toArray, List.set_cons_zero, List.set_cons_succ])
            refine wpAnyH_take (i := 2) (v := ?v4) rfl (by kernel_rfl) (by kernel_rfl) (by kernel_rfl) (fun _ _ _ h => h) (Or.inl ⟨by rfl, ?hy4⟩) (by assumption) ?rest4
            case hy4 => (intro w hSw; (try dsimp only at hSw); simp only [List.getElem_toArray, List.getElem_cons_zero, List.getElem_cons_succ]; go_simp; (try with_reducible rfl))
            (try simp only [Act.put, List.getElem_toArray, List.getElem_cons_zero, List.getElem_cons_succ, List.setIfInBounds_toArray, List.set_cons_zero, List.set_cons_succ])
            refine wpAnyH_take (i := 3) (v := ?v5) rfl (by kernel_rfl) (by kernel_rfl) (by kernel_rfl) (fun _ _ _ h => h) (Or.inl ⟨by rfl, ?hy5⟩) (by assumption) ?rest5
            case hy5 => (intro w hSw; (try dsimp only at hSw); simp only [List.getElem_toArray, List.getElem_cons_zero, List.getElem_cons_succ]; go_simp; (try with_reducible rfl))
            (try simp only [Act.put, List.getElem_toArray, List.getElem_cons_zero, List.getElem_cons_succ, List.setIfInBounds_toArray, List.set_cons_zero, List.set_cons_succ])
            refine wpAnyH_take (i := 4) (v := ?v6) rfl (by kernel_rfl) (by kernel_rfl) (by kernel_rfl) (fun _ _ _ h => h) (Or.inl ⟨by rfl, ?hy6⟩) (by assumption) ?rest6
            case hy6 => (intro w hSw; (try dsimp only at hSw); simp only [List.getElem_toArray, List.getElem_cons_zero, List.getElem_cons_succ]; go_simp; (try with_reducible rfl))
            (try simp only [Act.put, List.getElem_toArray, List.getElem_cons_zero, List.getElem_cons_succ, List.setIfInBounds_toArray, List.set_cons_zero, List.set_cons_succ])
            refine wpAnyH_take (i := 5) (v := ?v7) rfl (by kernel_rfl) (by kernel_rfl) (by kernel_rfl) (fun _ _ _ h => h) (Or.inl ⟨by rfl, ?hy7⟩) (by assumption) ?rest7
            case hy7 => (intro w hSw; (try dsimp only at hSw); simp only [List.getElem_toArray, List.getElem_cons_zero, List.getElem_cons_succ]; go_simp; (try with_reducible rfl))
            (try simp only [Act.put, List.getElem_toArray, List.getElem_cons_zero, List.getElem_cons_succ, List.setIfInBounds_toArray, List.set_cons_zero, List.set_cons_succ])
            refine wpAnyH_take (i := 6) (v := ?v8) rfl (by kernel_rfl) (by kernel_rfl) (by kernel_rfl) (fun _ _ _ h => h) (Or.inl ⟨by rfl, ?hy8⟩) (by assumption) ?rest8
            case hy8 => (intro w hSw; (try dsimp only at hSw); simp only [List.getElem_toArray, List.getElem_cons_zero, List.getElem_cons_succ]; go_simp; (try with_reducible rfl))
            (try simp only [Act.put, List.getElem_toArray, List.getElem_cons_zero, List.getElem_cons_succ, List.setIfInBounds_toArray, List.set_cons_zero, List.set_cons_succ])
            refine wpAnyH_take (i := 7) (v := ?v9) rfl (by kernel_rfl) (by kernel_rfl) (by kernel_rfl) (fun _ _ _ h => h) (Or.inl ⟨by rfl, ?hy9⟩) (by assumption) ?rest9
            case hy9 => (intro w hSw; (try dsimp only at hSw); simp only [List.getElem_toArray, List.getElem_cons_zero, List.getElem_cons_succ]; go_simp; (try with_reducible rfl))
            (try simp only [Act.put, List.getElem_toArray, List.getElem_cons_zero, List.getElem_cons_succ, List.setIfInBounds_toArray, List.set_cons_zero, List.set_cons_succ])
            refine wpAnyH_take (i := 8) (v := ?v10) rfl (by kernel_rfl) (by kernel_rfl) (by kernel_rfl) (fun _ _ _ h => h) (Or.inl ⟨by rfl, ?hy10⟩) (by assumption) ?rest10
            case hy10 => (intro w hSw; (try dsimp only at hSw); simp only [List.getElem_toArray, List.getElem_cons_zero, List.getElem_cons_succ]; go_simp; (try with_reducible rfl))
            (try simp only [Act.put, List.getElem_toArray, List.getElem_cons_zero, List.getElem_cons_succ, List.setIfInBounds_toArray, List.set_cons_zero, List.set_cons_succ])
            refine wpAnyH_take (i := 9) (v := ?v11) rfl (by kernel_rfl) (by kernel_rfl) (by kernel_rfl) (fun _ _ _ h => h) (Or.inl ⟨by rfl, ?hy11⟩) (by assumption) ?rest11
            case hy11 => (intro w hSw; (try dsimp only at hSw); simp only [List.getElem_toArray, List.getElem_cons_zero, List.getElem_cons_succ]; go_simp; (try with_reducible rfl))
            (try simp only [Act.put, List.getElem_toArray, List.getElem_cons_zero, List.getElem_cons_succ, List.setIfInBounds_toArray, List.set_cons_zero, List.set_cons_succ])
            refine wpAnyH_ready (rs := [10]) (by kernel_rfl) (by simp) ?_
            refine AllReadyH.cons rfl (fun K hK => ?_) ?_
            · simp only [List.getElem_toArray, List.getElem_cons_zero, List.getElem_cons_succ]
              go_simp
              refine (HCr.out _ ?hw12).mono ?_
              (case hw12 => exact HO5.out.drew)
              rintro e w6 ⟨br', bwr', rfl, hc6, l1, l2, ho6⟩
              have HC6 := hid_mk hc6
              have HO6 : Hid (Out 0 0 w5 w6) := (Out.refl 0 0 w5).drew.trans ho6
              have HL6 : Hid (w5.heap.size ≤ br' ∧ w5.heap.size ≤ bwr') := ⟨l1, l2⟩
              have u0 := HO6.out.cell v0 (.inr (Nat.zero_le _))
              have u1 := HO6.out.cell v1 (.inr (Nat.zero_le _))
              have uL := HO6.out.cell vL1 (.inr (Nat.zero_le _))
              have uF := (HPG.out.quiet2 (HO5.out.trans HO6.out)).2.2.2
              have uF2 := frozen_alloc (.cells #[.pointer (some ⟨bc, 0, none⟩), .pointer (some ⟨br', 0, none⟩), .slice none 0 0, .slice none 0 0, .slice none 0 0, .slice none 0 0] 59) uF
              have u0' := (HO6.out.alloc (.cells #[.pointer (some ⟨bc, 0, none⟩), .pointer (some ⟨br', 0, none⟩), .slice none 0 0, .slice none 0 0, .slice none 0 0, .slice none 0 0] 59)).cell v0 (.inr (Nat.zero_le _))
              have u1' := (HO6.out.alloc (.cells #[.pointer (some ⟨bc, 0, none⟩), .pointer (some ⟨br', 0, none⟩), .slice none 0 0, .slice none 0 0, .slice none 0 0, .slice none 0 0] 59)).cell v1 (.inr (Nat.zero_le _))
              have uL' := (HO6.out.alloc (.cells #[.pointer (some ⟨bc, 0, none⟩), .pointer (some ⟨br', 0, none⟩), .slice none 0 0, .slice none 0 0, .slice none 0 0, .slice none 0 0] 59)).cell vL1 (.inr (Nat.zero_le _))
              clear hc6 l1 l2 ho6
              go_wp2_with fail
              refine hK.out _ _ ?hS12 (fun hHeld2 => ?rest12)
              case hS12 => exact ⟨u0, u1⟩
              clear hK K
              (try clear hHeld)
              have hHeld := hHeld2
              clear hHeld2
              (try simp only [Act.put, List.getElem_toArray, List.getElem_cons_zero, List.getElem_cons_succ, List.setIfInBounds_toArray, List.set_cons_zero, List.set_cons_succ])
              refine wpAnyH_take (i := 11) (v := ?v13) rfl (by kernel_rfl) (by kernel_rfl) (by kernel_rfl) (fun _ _ _ h => h) (Or.inl ⟨by rfl, ?hy13⟩) (by assumption) ?rest13
              case hy13 => (intro w hSw; (try dsimp only at hSw); simp only [List.getElem_toArray, List.getElem_cons_zero, List.getElem_cons_succ]; go_simp; (try with_reducible rfl))
              (try simp only [Act.put, List.getElem_toArray, List.getElem_cons_zero, List.getElem_cons_succ, List.setIfInBounds_toArray, List.set_cons_zero, List.set_cons_succ])
              refine wpAnyH_ready (rs := [12]) (by kernel_rfl) (by simp) ?_
              refine AllReadyH.cons rfl (fun K hK => ?_) ?_
              · simp only [List.getElem_toArray, List.getElem_cons_zero, List.getElem_cons_succ]
                go_simp
                refine hK.out _ _ ?hS14 (fun hHeld2 => ?rest14)
                case hS14 => exact ⟨u0', u1'⟩
                clear hK K
                (try clear hHeld)
                have hHeld := hHeld2
                clear hHeld2
                (try simp only [Act.put, List.getElem_toArray, List.getElem_cons_zero, List.getElem_cons_succ, List.setIfInBounds_toArray, List.set_cons_zero, List.set_cons_succ])
                refine wpAnyH_take (i := 13) (v := ?v15) rfl (by kernel_rfl) (by kernel_rfl) (by kernel_rfl) (fun _ _ _ h => h) (Or.inl ⟨by rfl, ?hy15⟩) (by assumption) ?rest15
                case hy15 => (intro w hSw; (try dsimp only at hSw); simp only [List.getElem_toArray, List.getElem_cons_zero, List.getElem_cons_succ]; go_simp; (try with_reducible rfl))
                (try simp only [Act.put, List.getElem_toArray, List.getElem_cons_zero, List.getElem_cons_succ, List.setIfInBounds_toArray, List.set_cons_zero, List.set_cons_succ])
                refine wpAnyH_ready (rs := [14]) (by kernel_rfl) (by simp) ?_
                refine AllReadyH.cons rfl (fun K hK => ?_) ?_
                · simp only [List.getElem_toArray, List.getElem_cons_zero, List.getElem_cons_succ]
                  go_simp
                  refine hK.out _ _ ?hS16 (fun hHeld2 => ?rest16)
                  case hS16 => first | go_keep | exact ⟨(((HO6.out.any L (L + 1)).alloc (.cells #[.pointer (some ⟨bc, 0, none⟩), .pointer (some ⟨br', 0, none⟩), .slice none 0 0, .slice none 0 0, .slice none 0 0, .slice none 0 0] 59)).setCell (.inl ⟨Nat.le_refl _, Nat.lt_succ_self _⟩) _).cell v0 (by have := HLX.out; omega), (((HO6.out.any L (L + 1)).alloc (.cells #[.pointer (some ⟨bc, 0, none⟩), .pointer (some ⟨br', 0, none⟩), .slice none 0 0, .slice none 0 0, .slice none 0 0, .slice none 0 0] 59)).setCell (.inl ⟨Nat.le_refl _, Nat.lt_succ_self _⟩) _).cell v1 (by have := HLb.out; omega)⟩ | exact ⟨(((HO6.out.any L (L + 1)).setCell (.inl ⟨Nat.le_refl _, Nat.lt_succ_self _⟩) _).alloc (.cells #[.pointer (some ⟨bc, 0, none⟩), .pointer (some ⟨br', 0, none⟩), .slice none 0 0, .slice none 0 0, .slice none 0 0, .slice none 0 0] 59)).cell v0 (by have := HLX.out; omega), (((HO6.out.any L (L + 1)).setCell (.inl ⟨Nat.le_refl _, Nat.lt_succ_self _⟩) _).alloc (.cells #[.pointer (some ⟨bc, 0, none⟩), .pointer (some ⟨br', 0, none⟩), .slice none 0 0, .slice none 0 0, .slice none 0 0, .slice none 0 0] 59)).cell v1 (by have := HLb.out; omega)⟩
                  clear hK K
                  (try clear hHeld)
                  have hHeld := hHeld2
                  clear hHeld2
                  (try simp only [Act.put, List.getElem_toArray, List.getElem_cons_zero, List.getElem_cons_succ, List.setIfInBounds_toArray, List.set_cons_zero, List.set_cons_succ])
                  refine wpAnyH_done (by kernel_rfl) ?_ _
                  obtain ⟨Dn, hDn⟩ := HPG.out.copied1 HC5.out HO5.out HL5.out HC6.out HO6.out HL6.out
                  have HPn := hid_mk hDn
                  clear hDn hHeld u0 u1 uL uF uF2 u0' u1' uL' v0 v1 vL0 vL1 t0 t1 x0 x1 x2 y0 y1 yf0 yf1
                  obtain ⟨W7, hW7⟩ : ∃ W7, (w6.setCell ⟨L, 1, none⟩ (.pointer (some ⟨w6.heap.size, 0, none⟩))).alloc (.cells #[.pointer (some ⟨bc, 0, none⟩), .pointer (some ⟨br', 0, none⟩), .slice none 0 0, .slice none 0 0, .slice none 0 0, .slice none 0 0] 59) = W7 := ⟨_, rfl⟩
                  rw [hW7] at HPn ⊢
                  clear hW7
                  go_wp2
                  go_roundw
                  case rel => exact ⟨i + 1, N + 1, i0, N, Dn, by omega, by omega, by go_num, HPn.out⟩
                  case measure => simp [intOf]; omega
                · exact AllReadyH.nil
              · exact AllReadyH.nil
            · exact AllReadyH.nil
          · have e4 : (kd == 4) = false := by rw [beq_eq_false_iff_ne]; exact hk4
            have hlow : kd < 1 ∨ 3 < kd := by omega
            by_cases hl : u ≤ kd ∧ kd ≤ v
            · obtain ⟨l1, l2⟩ := hl
              have HU := hid_mk (looked_any (HPG.out.pk i0 HPG.out.h0) (HPG.out.tab HT.out HB2.out) (HPG.out.hu rfl i0 HPG.out.h0) z kd x (by omega))
              have l3 : 1 ≤ kd := by omega
              have l4 : 3 < kd := by omega
              clear hk1 hk4 hlow
              go_wp2_with fail
              refine HU.out.mono ?_
              rintro e w5 ⟨rfl, d5, ha, hu5⟩
              have HP5 := hid_mk (HPG.out.act HPG.out.h0 ha (fun _ => hu5))
              clear ha hu5 HU
              go_wp2
              go_roundw
              case rel => exact ⟨i + 1, N, i0, i1, _, by omega, by omega, by go_num, HP5.out⟩
              case measure => simp [intOf]; omega
            · clear hk1 hk4
              rcases hlow with hlow | hlow
              · have l2 : kd < u := by omega
                clear hl
                go_wp2
                go_roundw
                case rel => exact ⟨i + 1, N, i0, i1, _, by omega, by omega, by go_num, HPG.out⟩
                case measure => simp [intOf]; omega
              · have l3 : 1 ≤ kd := by omega
                by_cases l1 : u ≤ kd
                · have l2 : v < kd := by omega
                  clear hl
                  go_wp2
                  go_roundw
                  case rel => exact ⟨i + 1, N, i0, i1, _, by omega, by omega, by go_num, HPG.out⟩
                  case measure => simp [intOf]; omega
                · have l2 : kd < u := by omega
                  clear hl l1
                  go_wp2
                  go_roundw
                  case rel => exact ⟨i + 1, N, i0, i1, _, by omega, by omega, by go_num, HPG.out⟩
                  case measure => simp [intOf]; omega
      · by_cases hk1 : 1 ≤ kd ∧ kd ≤ 3
        · obtain ⟨kd1, kd2⟩ := hk1
          have HU := hid_mk (turned_any (HPG.out.pk i1 HPG.out.h1) (HPG.out.tab HT.out HB2.out) z kd x ⟨kd1, kd2⟩)
          go_wp2_with fail
          refine HU.out.mono ?_
          rintro e w5 ⟨rfl, d5, ha, hu5⟩
          have HP5 := hid_mk (HPG.out.act HPG.out.h1 ha (fun h => hu5.trans (HPG.out.hu h i1 HPG.out.h1)))
          clear ha hu5 HU
          go_wp2
          go_roundw
          case rel => exact ⟨i + 1, N, i0, i1, _, by omega, by omega, by go_num, HP5.out⟩
          case measure => simp [intOf]; omega
        · by_cases hk4 : kd = 4
          · subst hk4
            have HPi := hid_mk (HPG.out.pk i1 HPG.out.h1)
            obtain ⟨t0, t1⟩ := HPi.out.cells
            have HCp := hid_mk (copy_any HPi.out.2.2.1 (by have := HB2.out; have := HPi.out.hB; omega))
            have HCr : Hid (∀ w', Out 0 0 WG w' → Calls Tryd.prog 32 #[.pointer (some ⟨(D' i1).br, 0, none⟩)] w' fun e w'' => ∃ b' bw', e = .returned (.pointer (some ⟨b', 0, none⟩)) ∧ TblAt 61 w'' b' bw' (D' i1).n (D' i1).S ∧ w'.heap.size ≤ b' ∧ w'.heap.size ≤ bw' ∧ Out 0 0 w' w'') := fun w' o => refCopy_any (HPi.out.quiet o).2.2.2.1 (by have := HB2.out; have := (HPi.out.quiet o).hB; omega)
            have HLb : Hid ((D' i1).b ≠ L) := fun e => HPG.out.nL i1 HPG.out.h1 (.inl (by rw [← e, HPi.out.col0.1]; decide))
            have hw0 : IntKind.i64.wrap 0 = 0 := by decide
            have hw1 : IntKind.i64.wrap 1 = 1 := by decide
            go_wp2_with fail
            refine HCp.out.mono ?_
            rintro e w5 ⟨bc, bwc, rfl, hc5, l1, l2, ho5⟩
            have HC5 := hid_mk hc5
            have HO5 := hid_mk ho5
            have HL5 : Hid (WG.heap.size ≤ bc ∧ WG.heap.size ≤ bwc) := ⟨l1, l2⟩
            have v0 := ho5.cell x0 (.inr (Nat.zero_le _))
            have v1 := ho5.cell t1 (.inr (Nat.zero_le _))
            have vL0 := ho5.cell y0 (.inr (Nat.zero_le _))
            have vL1 := ho5.cell y1 (.inr (Nat.zero_le _))
            clear hc5 l1 l2 ho5 HCp hk1
            go_wp2_with fail
            refine wp_region_held_drew (S := fun w' => w'.cell? ⟨X, 0, none⟩ = some (.int .i64 z) ∧ w'.cell? ⟨(D' i1).b, 1, none⟩ = some (.pointer (some ⟨(D' i1).br, 0, none⟩))) (by kernel_rfl) ?hS17 (fun hHeld => ?rest17)
            case hS17 => exact ⟨v0, v1⟩
            refine wpAnyH_take (i := 0) (v := ?v18) rfl (by kernel_rfl) (by kernel_rfl) (by kernel_rfl) (fun _ _ _ h => h) (Or.inl ⟨by rfl, ?hy18⟩) (by assumption) ?rest18
            case hy18 => (intro w hSw; (try dsimp only at hSw); simp only [List.getElem_toArray, List.getElem_cons_zero, List.getElem_cons_succ]; go_simp; (try with_reducible rfl))
            (try simp only [Act.put, List.getElem_toArray, List.getElem_cons_zero, List.getElem_cons_succ, List.setIfInBounds_toArray, List.set_cons_zero, List.set_cons_succ])
            refine wpAnyH_take (i := 1) (v := ?v19) rfl (by kernel_rfl) (by kernel_rfl) (by kernel_rfl) (fun _ _ _ h => h) (Or.inl ⟨by rfl, ?hy19⟩) (by assumption) ?rest19
            case hy19 => (intro w hSw; (try dsimp only at hSw); simp only [List.getElem_toArray, List.getElem_cons_zero, List.getElem_cons_succ]; go_simp; (try with_reducible rfl))
            (try simp only [Act.put, List.getElem_toArray, List.getElem_cons_zero, List.getElem_cons_succ, List.setIfInBounds_toArray, List.set_cons_zero, List.set_cons_succ])
            refine wpAnyH_take (i := 2) (v := ?v20) rfl (by kernel_rfl) (by kernel_rfl) (by kernel_rfl) (fun _ _ _ h => h) (Or.inl ⟨by rfl, ?hy20⟩) (by assumption) ?rest20
            case hy20 => (intro w hSw; (try dsimp only at hSw); simp only [List.getElem_toArray, List.getElem_cons_zero, List.getElem_cons_succ]; go_simp; (try with_reducible rfl))
            (try simp only [Act.put, List.getElem_toArray, List.getElem_cons_zero, List.getElem_cons_succ, List.setIfInBounds_toArray, List.set_cons_zero, List.set_cons_succ])
            refine wpAnyH_take (i := 3) (v := ?v21) rfl (by kernel_rfl) (by kernel_rfl) (by kernel_rfl) (fun _ _ _ h => h) (Or.inl ⟨by rfl, ?hy21⟩) (by assumption) ?rest21
            case hy21 => (intro w hSw; (try dsimp only at hSw); simp only [List.getElem_toArray, List.getElem_cons_zero, List.getElem_cons_succ]; go_simp; (try with_reducible rfl))
            (try simp only [Act.put, List.getElem_toArray, List.getElem_cons_zero, List.getElem_cons_succ, List.setIfInBounds_toArray, List.set_cons_zero, List.set_cons_succ])
            refine wpAnyH_take (i := 4) (v := ?v22) rfl (by kernel_rfl) (by kernel_rfl) (by kernel_rfl) (fun _ _ _ h => h) (Or.inl ⟨by rfl, ?hy22⟩) (by assumption) ?rest22
            case hy22 => (intro w hSw; (try dsimp only at hSw); simp only [List.getElem_toArray, List.getElem_cons_zero, List.getElem_cons_succ]; go_simp; (try with_reducible rfl))
            (try simp only [Act.put, List.getElem_toArray, List.getElem_cons_zero, List.getElem_cons_succ, List.setIfInBounds_toArray, List.set_cons_zero, List.set_cons_succ])
            refine wpAnyH_take (i := 5) (v := ?v23) rfl (by kernel_rfl) (by kernel_rfl) (by kernel_rfl) (fun _ _ _ h => h) (Or.inl ⟨by rfl, ?hy23⟩) (by assumption) ?rest23
            case hy23 => (intro w hSw; (try dsimp only at hSw); simp only [List.getElem_toArray, List.getElem_cons_zero, List.getElem_cons_succ]; go_simp; (try with_reducible rfl))
            (try simp only [Act.put, List.getElem_toArray, List.getElem_cons_zero, List.getElem_cons_succ, List.setIfInBounds_toArray, List.set_cons_zero, List.set_cons_succ])
            refine wpAnyH_take (i := 6) (v := ?v24) rfl (by kernel_rfl) (by kernel_rfl) (by kernel_rfl) (fun _ _ _ h => h) (Or.inl ⟨by rfl, ?hy24⟩) (by assumption) ?rest24
            case hy24 => (intro w hSw; (try dsimp only at hSw); simp only [List.getElem_toArray, List.getElem_cons_zero, List.getElem_cons_succ]; go_simp; (try with_reducible rfl))
            (try simp only [Act.put, List.getElem_toArray, List.getElem_cons_zero, List.getElem_cons_succ, List.setIfInBounds_toArray, List.set_cons_zero, List.set_cons_succ])
            refine wpAnyH_take (i := 7) (v := ?v25) rfl (by kernel_rfl) (by kernel_rfl) (by kernel_rfl) (fun _ _ _ h => h) (Or.inl ⟨by rfl, ?hy25⟩) (by assumption) ?rest25
            case hy25 => (intro w hSw; (try dsimp only at hSw); simp only [List.getElem_toArray, List.getElem_cons_zero, List.getElem_cons_succ]; go_simp; (try with_reducible rfl))
            (try simp only [Act.put, List.getElem_toArray, List.getElem_cons_zero, List.getElem_cons_succ, List.setIfInBounds_toArray, List.set_cons_zero, List.set_cons_succ])
            refine wpAnyH_take (i := 8) (v := ?v26) rfl (by kernel_rfl) (by kernel_rfl) (by kernel_rfl) (fun _ _ _ h => h) (Or.inl ⟨by rfl, ?hy26⟩) (by assumption) ?rest26
            case hy26 => (intro w hSw; (try dsimp only at hSw); simp only [List.getElem_toArray, List.getElem_cons_zero, List.getElem_cons_succ]; go_simp; (try with_reducible rfl))
            (try simp only [Act.put, List.getElem_toArray, List.getElem_cons_zero, List.getElem_cons_succ, List.setIfInBounds_toArray, List.set_cons_zero, List.set_cons_succ])
            refine wpAnyH_take (i := 9) (v := ?v27) rfl (by kernel_rfl) (by kernel_rfl) (by kernel_rfl) (fun _ _ _ h => h) (Or.inl ⟨by rfl, ?hy27⟩) (by assumption) ?rest27
            case hy27 => (intro w hSw; (try dsimp only at hSw); simp only [List.getElem_toArray, List.getElem_cons_zero, List.getElem_cons_succ]; go_simp; (try with_reducible rfl))
            (try simp only [Act.put, List.getElem_toArray, List.getElem_cons_zero, List.getElem_cons_succ, List.setIfInBounds_toArray, List.set_cons_zero, List.set_cons_succ])
            refine wpAnyH_ready (rs := [10]) (by kernel_rfl) (by simp) ?_
            refine AllReadyH.cons rfl (fun K hK => ?_) ?_
            · simp only [List.getElem_toArray, List.getElem_cons_zero, List.getElem_cons_succ]
              go_simp
              refine (HCr.out _ ?hw28).mono ?_
              (case hw28 => exact HO5.out.drew)
              rintro e w6 ⟨br', bwr', rfl, hc6, l1, l2, ho6⟩
              have HC6 := hid_mk hc6
              have HO6 : Hid (Out 0 0 w5 w6) := (Out.refl 0 0 w5).drew.trans ho6
              have HL6 : Hid (w5.heap.size ≤ br' ∧ w5.heap.size ≤ bwr') := ⟨l1, l2⟩
              have u0 := HO6.out.cell v0 (.inr (Nat.zero_le _))
              have u1 := HO6.out.cell v1 (.inr (Nat.zero_le _))
              have uL := HO6.out.cell vL0 (.inr (Nat.zero_le _))
              have uF := (HPG.out.quiet2 (HO5.out.trans HO6.out)).2.2.1
              have uF2 := frozen_alloc (.cells #[.pointer (some ⟨bc, 0, none⟩), .pointer (some ⟨br', 0, none⟩), .slice none 0 0, .slice none 0 0, .slice none 0 0, .slice none 0 0] 59) uF
              have u0' := (HO6.out.alloc (.cells #[.pointer (some ⟨bc, 0, none⟩), .pointer (some ⟨br', 0, none⟩), .slice none 0 0, .slice none 0 0, .slice none 0 0, .slice none 0 0] 59)).cell v0 (.inr (Nat.zero_le _))
              have u1' := (HO6.out.alloc (.cells #[.pointer (some ⟨bc, 0, none⟩), .pointer (some ⟨br', 0, none⟩), .slice none 0 0, .slice none 0 0, .slice none 0 0, .slice none 0 0] 59)).cell v1 (.inr (Nat.zero_le _))
              have uL' := (HO6.out.alloc (.cells #[.pointer (some ⟨bc, 0, none⟩), .pointer (some ⟨br', 0, none⟩), .slice none 0 0, .slice none 0 0, .slice none 0 0, .slice none 0 0] 59)).cell vL0 (.inr (Nat.zero_le _))
              clear hc6 l1 l2 ho6
              go_wp2_with fail
              refine hK.out _ _ ?hS28 (fun hHeld2 => ?rest28)
              case hS28 => exact ⟨u0, u1⟩
              clear hK K
              (try clear hHeld)
              have hHeld := hHeld2
              clear hHeld2
              (try simp only [Act.put, List.getElem_toArray, List.getElem_cons_zero, List.getElem_cons_succ, List.setIfInBounds_toArray, List.set_cons_zero, List.set_cons_succ])
              refine wpAnyH_take (i := 11) (v := ?v29) rfl (by kernel_rfl) (by kernel_rfl) (by kernel_rfl) (fun _ _ _ h => h) (Or.inl ⟨by rfl, ?hy29⟩) (by assumption) ?rest29
              case hy29 => (intro w hSw; (try dsimp only at hSw); simp only [List.getElem_toArray, List.getElem_cons_zero, List.getElem_cons_succ]; go_simp; (try with_reducible rfl))
              (try simp only [Act.put, List.getElem_toArray, List.getElem_cons_zero, List.getElem_cons_succ, List.setIfInBounds_toArray, List.set_cons_zero, List.set_cons_succ])
              refine wpAnyH_ready (rs := [12]) (by kernel_rfl) (by simp) ?_
              refine AllReadyH.cons rfl (fun K hK => ?_) ?_
              · simp only [List.getElem_toArray, List.getElem_cons_zero, List.getElem_cons_succ]
                go_simp
                refine hK.out _ _ ?hS30 (fun hHeld2 => ?rest30)
                case hS30 => exact ⟨u0', u1'⟩
                clear hK K
                (try clear hHeld)
                have hHeld := hHeld2
                clear hHeld2
                (try simp only [Act.put, List.getElem_toArray, List.getElem_cons_zero, List.getElem_cons_succ, List.setIfInBounds_toArray, List.set_cons_zero, List.set_cons_succ])
                refine wpAnyH_take (i := 13) (v := ?v31) rfl (by kernel_rfl) (by kernel_rfl) (by kernel_rfl) (fun _ _ _ h => h) (Or.inl ⟨by rfl, ?hy31⟩) (by assumption) ?rest31
                case hy31 => (intro w hSw; (try dsimp only at hSw); simp only [List.getElem_toArray, List.getElem_cons_zero, List.getElem_cons_succ]; go_simp; (try with_reducible rfl))
                (try simp only [Act.put, List.getElem_toArray, List.getElem_cons_zero, List.getElem_cons_succ, List.setIfInBounds_toArray, List.set_cons_zero, List.set_cons_succ])
                refine wpAnyH_ready (rs := [14]) (by kernel_rfl) (by simp) ?_
                refine AllReadyH.cons rfl (fun K hK => ?_) ?_
                · simp only [List.getElem_toArray, List.getElem_cons_zero, List.getElem_cons_succ]
                  go_simp
                  refine hK.out _ _ ?hS32 (fun hHeld2 => ?rest32)
                  case hS32 => first | go_keep | exact ⟨(((HO6.out.any L (L + 1)).alloc (.cells #[.pointer (some ⟨bc, 0, none⟩), .pointer (some ⟨br', 0, none⟩), .slice none 0 0, .slice none 0 0, .slice none 0 0, .slice none 0 0] 59)).setCell (.inl ⟨Nat.le_refl _, Nat.lt_succ_self _⟩) _).cell v0 (by have := HLX.out; omega), (((HO6.out.any L (L + 1)).alloc (.cells #[.pointer (some ⟨bc, 0, none⟩), .pointer (some ⟨br', 0, none⟩), .slice none 0 0, .slice none 0 0, .slice none 0 0, .slice none 0 0] 59)).setCell (.inl ⟨Nat.le_refl _, Nat.lt_succ_self _⟩) _).cell v1 (by have := HLb.out; omega)⟩ | exact ⟨(((HO6.out.any L (L + 1)).setCell (.inl ⟨Nat.le_refl _, Nat.lt_succ_self _⟩) _).alloc (.cells #[.pointer (some ⟨bc, 0, none⟩), .pointer (some ⟨br', 0, none⟩), .slice none 0 0, .slice none 0 0, .slice none 0 0, .slice none 0 0] 59)).cell v0 (by have := HLX.out; omega), (((HO6.out.any L (L + 1)).setCell (.inl ⟨Nat.le_refl _, Nat.lt_succ_self _⟩) _).alloc (.cells #[.pointer (some ⟨bc, 0, none⟩), .pointer (some ⟨br', 0, none⟩), .slice none 0 0, .slice none 0 0, .slice none 0 0, .slice none 0 0] 59)).cell v1 (by have := HLb.out; omega)⟩
                  clear hK K
                  (try clear hHeld)
                  have hHeld := hHeld2
                  clear hHeld2
                  (try simp only [Act.put, List.getElem_toArray, List.getElem_cons_zero, List.getElem_cons_succ, List.setIfInBounds_toArray, List.set_cons_zero, List.set_cons_succ])
                  refine wpAnyH_done (by kernel_rfl) ?_ _
                  obtain ⟨Dn, hDn⟩ := HPG.out.copied0 HC5.out HO5.out HL5.out HC6.out HO6.out HL6.out
                  have HPn := hid_mk hDn
                  clear hDn hHeld u0 u1 uL uF uF2 u0' u1' uL' v0 v1 vL0 vL1 t0 t1 x0 x1 x2 y0 y1 yf0 yf1
                  obtain ⟨W7, hW7⟩ : ∃ W7, (w6.setCell ⟨L, 0, none⟩ (.pointer (some ⟨w6.heap.size, 0, none⟩))).alloc (.cells #[.pointer (some ⟨bc, 0, none⟩), .pointer (some ⟨br', 0, none⟩), .slice none 0 0, .slice none 0 0, .slice none 0 0, .slice none 0 0] 59) = W7 := ⟨_, rfl⟩
                  rw [hW7] at HPn ⊢
                  clear hW7
                  go_wp2
                  go_roundw
                  case rel => exact ⟨i + 1, N + 1, N, i1, Dn, by omega, by omega, by go_num, HPn.out⟩
                  case measure => simp [intOf]; omega
                · exact AllReadyH.nil
              · exact AllReadyH.nil
            · exact AllReadyH.nil
          · have e4 : (kd == 4) = false := by rw [beq_eq_false_iff_ne]; exact hk4
            have hlow : kd < 1 ∨ 3 < kd := by omega
            by_cases hl : u ≤ kd ∧ kd ≤ v
            · obtain ⟨l1, l2⟩ := hl
              have HU := hid_mk (looked_any (HPG.out.pk i1 HPG.out.h1) (HPG.out.tab HT.out HB2.out) (HPG.out.hu rfl i1 HPG.out.h1) z kd x (by omega))
              have l3 : 1 ≤ kd := by omega
              have l4 : 3 < kd := by omega
              clear hk1 hk4 hlow
              go_wp2_with fail
              refine HU.out.mono ?_
              rintro e w5 ⟨rfl, d5, ha, hu5⟩
              have HP5 := hid_mk (HPG.out.act HPG.out.h1 ha (fun _ => hu5))
              clear ha hu5 HU
              go_wp2
              go_roundw
              case rel => exact ⟨i + 1, N, i0, i1, _, by omega, by omega, by go_num, HP5.out⟩
              case measure => simp [intOf]; omega
            · clear hk1 hk4
              rcases hlow with hlow | hlow
              · have l2 : kd < u := by omega
                clear hl
                go_wp2
                go_roundw
                case rel => exact ⟨i + 1, N, i0, i1, _, by omega, by omega, by go_num, HPG.out⟩
                case measure => simp [intOf]; omega
              · have l3 : 1 ≤ kd := by omega
                by_cases l1 : u ≤ kd
                · have l2 : v < kd := by omega
                  clear hl
                  go_wp2
                  go_roundw
                  case rel => exact ⟨i + 1, N, i0, i1, _, by omega, by omega, by go_num, HPG.out⟩
                  case measure => simp [intOf]; omega
                · have l2 : kd < u := by omega
                  clear hl l1
                  go_wp2
                  go_roundw
                  case rel => exact ⟨i + 1, N, i0, i1, _, by omega, by omega, by go_num, HPG.out⟩
                  case measure => simp [intOf]; omega
    · clear hPr
      rw [← HPr.out.a0]
      by_cases hil : i < len
      · have g1 : (i : Int) < (len : Int) := by omega
        have g2 : (400 : Int) ≤ (i : Int) := by omega
        clear hil hgo
        go_wp2_with fail
        refine (apart_act (HPr.out.pk 0 (by have := HPr.out.n2; omega))).mono ?_
        rintro e w5 ⟨rfl, d5, ha⟩
        have HP5 := hid_mk ((HPr.out.loose).act (i := 0) (by have := HPr.out.n2; omega) ha (fun h => by cases h))
        have HE5 : Hid ((updD D wr.heap.size 0 d5 1).b = pb) := HP5.out.a1
        clear ha HPr
        rw [← HE5.out]
        go_wp2_with fail
        refine (apart_act (HP5.out.pk 1 (by have := HP5.out.n2; omega))).mono ?_
        rintro e w6 ⟨rfl, d6, ha⟩
        have HP6 := hid_mk (HP5.out.act (i := 1) (by have := HP5.out.n2; omega) ha (fun h => by cases h))
        obtain ⟨x0, x1, _, _⟩ := HP6.out.cells
        clear ha HP5
        go_wp2_with fail
        refine (apart_act (HP6.out.pk i0 HP6.out.h0)).mono ?_
        rintro e w7 ⟨rfl, d7, ha⟩
        have HP7 := hid_mk (HP6.out.act HP6.out.h0 ha (fun h => by cases h))
        obtain ⟨y0, y1, _, _⟩ := HP7.out.cells
        clear ha HP6 x0 x1
        go_wp2_with fail
        refine (apart_act (HP7.out.pk i1 HP7.out.h1)).mono ?_
        rintro e w8 ⟨rfl, d8, ha⟩
        have HP8 := hid_mk (HP7.out.act HP7.out.h1 ha (fun h => by cases h))
        clear ha HP7 y0 y1
        go_wp2
        go_ret
        exact ⟨rfl, by have := HP8.out.bel; rw [← HB.out] at this; exact this⟩
      · have g1 : (len : Int) ≤ (i : Int) := by omega
        clear hil hgo
        go_wp2_with fail
        refine (apart_act (HPr.out.pk 0 (by have := HPr.out.n2; omega))).mono ?_
        rintro e w5 ⟨rfl, d5, ha⟩
        have HP5 := hid_mk ((HPr.out.loose).act (i := 0) (by have := HPr.out.n2; omega) ha (fun h => by cases h))
        have HE5 : Hid ((updD D wr.heap.size 0 d5 1).b = pb) := HP5.out.a1
        clear ha HPr
        rw [← HE5.out]
        go_wp2_with fail
        refine (apart_act (HP5.out.pk 1 (by have := HP5.out.n2; omega))).mono ?_
        rintro e w6 ⟨rfl, d6, ha⟩
        have HP6 := hid_mk (HP5.out.act (i := 1) (by have := HP5.out.n2; omega) ha (fun h => by cases h))
        obtain ⟨x0, x1, _, _⟩ := HP6.out.cells
        clear ha HP5
        go_wp2_with fail
        refine (apart_act (HP6.out.pk i0 HP6.out.h0)).mono ?_
        rintro e w7 ⟨rfl, d7, ha⟩
        have HP7 := hid_mk (HP6.out.act HP6.out.h0 ha (fun h => by cases h))
        obtain ⟨y0, y1, _, _⟩ := HP7.out.cells
        clear ha HP6 x0 x1
        go_wp2_with fail
        refine (apart_act (HP7.out.pk i1 HP7.out.h1)).mono ?_
        rintro e w8 ⟨rfl, d8, ha⟩
        have HP8 := hid_mk (HP7.out.act HP7.out.h1 ha (fun h => by cases h))
        clear ha HP7 y0 y1
        go_wp2
        go_ret
        exact ⟨rfl, by have := HP8.out.bel; rw [← HB.out] at this; exact this⟩
end Go.Proofs.YtfkmaanfgkkjcaaDoor
