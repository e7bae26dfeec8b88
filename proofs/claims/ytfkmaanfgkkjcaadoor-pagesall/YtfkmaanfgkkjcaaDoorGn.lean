/- mark -/
import Derived.Test.YtfkmaanfgkkjcaaDoorGm
namespace Go.Proofs.YtfkmaanfgkkjcaaDoor
open Go.RowKit
set_option linter.unusedVariables false
set_option linter.unusedSimpArgs false

theorem info_sl : (Tryd.prog.info? 37).map (fun i => (i.zero, i.size, i.bytes)) = some (some (.slice none 0 0), 1, 24) := by kernel_rfl
theorem info_int : (Tryd.prog.info? 3).map (fun i => (i.zero, i.size, i.bytes)) = some (some (.int .i64 0), 1, 8) := by kernel_rfl
def HoldEnd (B b : Nat) (vT vR vL vW : Value) (L Wr : List Value) (C : Nat → List (Int × Int × Int)) (p : Nat) (u : Bool) (K : Nat) (col0 : Nat → Nat) (w w' : World) : Prop :=
  ∃ vS vM Ls Mk col, Keep B w' b vT vR vL vW vS vM L Wr Ls Mk C col none p u ∧ Ls.length = Mk.length ∧ Mk.length = K ∧ Fix col0 col w w'
theorem one_cell (x : Value) (hx : x.oneCell' = true) : ∀ u ∈ [x], u.oneCell' = true := by
  intro u hu; simp at hu; subst hu; exact hx
def cntH (j : Nat) : Nat := if j ≤ 16 then j else if j ≤ 39 then 16 else 17
theorem cnt_in {j : Nat} (h : j < 16 ∨ j = 39) : cntH (j + 1) = cntH j + 1 := by
  unfold cntH
  rcases h with h | h
  · rw [if_pos (by omega), if_pos (by omega)]
  · subst h; rfl
theorem cnt_no {j : Nat} (h : 16 ≤ j) (h2 : j < 39) : cntH (j + 1) = cntH j := by
  unfold cntH
  rw [if_neg (by omega), if_pos (by omega)]
  by_cases e : j ≤ 16
  · rw [if_pos e]; omega
  · rw [if_neg e, if_pos (by omega)]
theorem cnt_le (j : Nat) : cntH j ≤ 17 := by
  unfold cntH
  split
  · omega
  · split <;> omega
theorem HoldSt.ownF {B b : Nat} {vT vR vL vW : Value} {L Wr : List Value} {C : Nat → List (Int × Int × Int)} {p : Nat} {u : Bool} {m : Nat} {w : World} {vf : Value} {N : Nat} {vS vM : Value} {Ls : List Value} {Mk : List Nat} {col : Nat → Nat}
    (h : HoldSt B b vT vR vL vW L Wr C p u m w vf N vS vM Ls Mk col) : w.ownsRow B 45 3 vf N (pgs (List.replicate N (pm m))) := by
  have := h.2.1
  unfold ListIs at this
  rw [List.length_replicate] at this
  exact this
theorem pgs_set (l : List (Int × Int × Int)) : ∀ (i : Nat) (p : Int × Int × Int), pgs (l.set i p) = (((pgs l).set (i * 3) (.int .i64 p.1)).set (i * 3 + 1) (.int .i64 p.2.1)).set (i * 3 + 2) (.int .i64 p.2.2) := by
  induction l with
  | nil => intro i p; rfl
  | cons q l ih =>
    intro i p
    cases i with
    | zero => rfl
    | succ i =>
      rw [List.set_cons_succ, pgs_cons, pgs_cons, ih i p, show (i + 1) * 3 = i * 3 + 3 from by omega]
      rfl
theorem list_frozen {w : World} {B : Nat} {v : Value} {l : List (Int × Int × Int)} (h : ListIs w B v l) {g : Nat} (hg : v.ownBlock = some g) (i : Nat) : w.frozen? ⟨g, i, none⟩ = false := by
  rcases h.2 with ⟨e, _⟩ | ⟨g', cap, cur, e, _, hh, _⟩
  · rw [e] at hg; cases hg
  · rw [e] at hg; cases hg
    simp [World.frozen?, hh]
theorem list_set {w : World} {B : Nat} {v : Value} {l : List (Int × Int × Int)} (h : ListIs w B v l) {g : Nat} (hg : v.ownBlock = some g) (i : Nat) (x y z : Int) :
    ListIs (((w.setCell ⟨g, i * 3, none⟩ (.int .i64 x)).setCell ⟨g, i * 3 + 1, none⟩ (.int .i64 y)).setCell ⟨g, i * 3 + 2, none⟩ (.int .i64 z)) B v (l.set i (x, y, z)) := by
  obtain ⟨h1, h2⟩ := h
  refine ⟨by rw [pgs_len], ?_⟩
  rcases h2 with ⟨e, _⟩ | ⟨g', cap, cur, e, r1, hh, r2, r3, r4, r5⟩
  · rw [e] at hg; cases hg
  · rw [e] at hg; cases hg
    refine .inr ⟨g', cap, ((cur.setIfInBounds (i * 3) (.int .i64 x)).setIfInBounds (i * 3 + 1) (.int .i64 y)).setIfInBounds (i * 3 + 2) (.int .i64 z), by rw [e, List.length_set], r1, ?_, by rw [List.length_set]; exact r2, r3, by simp [r4], ?_⟩
    · simp [World.setCell, Array.getElem?_modify, hh]
    · rw [List.length_set, Array.toList_setIfInBounds, Array.toList_setIfInBounds, Array.toList_setIfInBounds, List.take_set, List.take_set, List.take_set, r5, pgs_set]
theorem fill_set {α : Type} {m : α} {i : Nat} {c : List α} (h : i < c.length) : (List.replicate i m ++ c.drop i).set i m = List.replicate (i + 1) m ++ c.drop (i + 1) := by
  rw [List.set_append_right _ _ (by simp)]
  rw [List.length_replicate, Nat.sub_self, List.drop_eq_getElem_cons h, List.set_cons_zero, List.replicate_succ', List.append_assoc]
  rfl
theorem fill_len {α : Type} {m : α} {i : Nat} {c : List α} (h : i ≤ c.length) : (List.replicate i m ++ c.drop i).length = c.length := by
  simp; omega
theorem Chg.set3 {col : Nat → Nat} {P : Nat → Prop} {w w' : World} (h : Chg col P w w') {g o : Nat} (hp : P (col g)) (x y z : Value) : Chg col P w (((w'.setCell ⟨g, o, none⟩ x).setCell ⟨g, o + 1, none⟩ y).setCell ⟨g, o + 2, none⟩ z) :=
  ((h.setCell (p := ⟨g, o, none⟩) hp x).setCell (p := ⟨g, o + 1, none⟩) hp y).setCell (p := ⟨g, o + 2, none⟩) hp z
theorem three_new (w : World) (x y z : Value) (T : TypeId) : ∀ j u, [x, y, z][j]? = some u → (w.alloc (.cells #[x, y, z] T)).cell? ((⟨w.heap.size, 0, none⟩ : Addr).add j) = some u := by
  intro j u h
  rw [Addr.add_lit, Nat.zero_add]
  have hb := heap_alloc_new w (.cells #[x, y, z] T)
  have hj : j < 3 := by have := (List.getElem?_eq_some_iff.1 h).1; simpa using this
  have hj' : j = 0 ∨ j = 1 ∨ j = 2 := by omega
  simp only [World.cell?, hb]
  rcases hj' with rfl | rfl | rfl <;> simpa using h
theorem three_cells (x y z : Int) : ∀ u ∈ [Value.int .i64 x, .int .i64 y, .int .i64 z], u.oneCell' = true := by
  intro u hu; simp at hu; rcases hu with rfl | rfl | rfl <;> rfl
set_option maxRecDepth 100000 in
set_option maxHeartbeats 8000000 in
theorem mark_any {B b : Nat} {vT vR vL vW : Value} {L Wr : List Value} {C : Nat → List (Int × Int × Int)} {p : Nat} {u : Bool} {w : World} {l : Value} {c : List (Int × Int × Int)} {vS vM : Value} {Ls : List Value} {Mk : List Nat} {col : Nat → Nat}
    (h : Keep B w b vT vR vL vW vS vM L Wr Ls Mk C col none p u) (hl : ListIs w B l c) (hc : ∀ x, l.ownBlock = some x → col x = 8) (hlen : Ls.length = Mk.length) (hK : Mk.length ≤ 2000) (hn : c.length ≤ 64) :
    Calls Tryd.prog 29 #[.pointer (some ⟨b, 0, none⟩), l] w fun e w' => e = .returned (.tuple #[]) ∧ HoldEnd B b vT vR vL vW L Wr C p u (Mk.length + 18) col w w' := by
  obtain ⟨aM, capM, rfl⟩ := own_shape h.oM
  obtain ⟨_, _, _, _, _, c3, _⟩ := keep_cells h.hb
  obtain ⟨aF, capF, rfl⟩ := own_shape hl
  obtain ⟨i0, hi0, hz0, hz1, hz2⟩ := info_parts info_int
  obtain ⟨i1, hi1, hy0, hy1, hy2⟩ := info_parts info_sl
  obtain ⟨i2, hi2, hx0, hx1, hx2⟩ := info_parts info_page
  have HK := hid_mk h
  have HL := hid_mk hl
  have HC := hid_mk hc
  have HLn := hid_mk hlen
  have HM := hid_mk hK
  have HN := hid_mk hn
  obtain ⟨K, hKe⟩ : ∃ K, Mk.length = K := ⟨_, rfl⟩
  obtain ⟨m, hm⟩ : ∃ m : Nat, (1000 : Int) + (K : Int) = (m : Int) := ⟨1000 + K, by omega⟩
  have HKe := hid_mk hKe
  have Hm := hid_mk hm
  rw [hKe] at c3 HM ⊢
  have k6 : (K : Int) ≤ 2000 := by have := HM.out; omega
  obtain ⟨n, hne⟩ : ∃ n, c.length = n := ⟨_, rfl⟩
  have Hne := hid_mk hne
  rw [hne]
  have Hm3 : Hid (m ≤ 3000) := by show m ≤ 3000; have := HM.out; omega
  have m3 : (m : Int) ≤ 3000 := by have := Hm3.out; omega
  have m0 : (0 : Int) ≤ (m : Int) := by omega
  clear h hl hc hlen hK hn hKe hne
  go_enter Tryd.func29, Tryd.ntmps29
  go_wp2_with fail
  go_loopw [5] (fun y wr => ∃ i : Nat, i ≤ n ∧ y = .int .i64 i ∧ Keep B wr b vT vR vL vW vS (.slice aM Mk.length capM) L Wr Ls Mk C col none p u ∧ ListIs wr B (.slice aF c.length capF) (List.replicate i (pm m) ++ c.drop i) ∧ Fix col col w wr) (fun y _ => n - (intOf y).toNat)
  case atStart => exact ⟨0, Nat.zero_le _, rfl, HK.out, HL.out, Fix.refl _ _⟩
  case round =>
    obtain ⟨i, i1', rfl, hk, hl, hb⟩ := hrel
    clear HL HK c3
    have HK := hid_mk hk
    have HL := hid_mk hl
    have HB := hid_mk hb
    have b0 : (0 : Int) ≤ (i : Int) := by omega
    by_cases hi : i < n
    · have hic : i < c.length := by rw [Hne.out]; exact hi
      have hlen' := fill_len (m := pm m) (c := c) (Nat.le_of_lt hic)
      obtain ⟨a', cap', e', hrow⟩ := list_shape hl
      rw [hlen'] at e'
      cases e'
      obtain ⟨g, rfl, go, gl, gc⟩ := hrow (by rw [hlen']; omega)
      obtain ⟨q0, q1, q2⟩ := gc i _ (List.getElem?_eq_getElem (by rw [hlen']; exact hic))
      have f0 := list_frozen hl go (i * 3)
      have f1 := list_frozen hl go (i * 3 + 1)
      have f2 := list_frozen hl go (i * 3 + 2)
      have hl2 := list_set hl go i (-(m : Int)) 0 0
      rw [show ((-(m : Int), (0 : Int), (0 : Int)) : Int × Int × Int) = pm m from rfl, fill_set hic] at hl2
      have ch : Chg col (fun c => c = 8) wr (((wr.setCell ⟨g, i * 3, none⟩ (.int .i64 (-(m : Int)))).setCell ⟨g, i * 3 + 1, none⟩ (.int .i64 0)).setCell ⟨g, i * 3 + 2, none⟩ (.int .i64 0)) := (Chg.of_out (Out.refl 0 0 _) _ _).set3 (HC.out g rfl) _ _ _
      have HK2 := hid_mk (hk.chg ch (fun _ h => .inr (.inl h)))
      have HL2 := hid_mk hl2
      have HB2 := hid_mk (hb.trans (Fix.of ch (by decide) (fun _ _ h => h)))
      generalize ((List.replicate i (pm m) ++ c.drop i)[i]'(by rw [hlen']; exact hic)) = y at q0 q1 q2
      obtain ⟨y0, y1, y2⟩ := y
      simp only at q0 q1 q2
      have b1 : (i : Int) < (n : Int) := by omega
      have b2 : (n : Int) ≤ 64 := by have := HN.out; have := Hne.out; omega
      clear hl hk hb gc hrow hl2 ch hlen' hic go gl
      go_wp2
      go_roundw
      case rel => exact ⟨i + 1, by omega, by go_num, HK2.out, HL2.out, HB2.out⟩
      case measure => simp [intOf]; omega
    · have : i = n := by omega
      subst this
      have hl3 : ListIs wr B (.slice aF i capF) (List.replicate i (pm m)) := by
        have := hl
        rw [Hne.out, show c.drop i = [] from List.drop_eq_nil_of_le (by have := Hne.out; omega), List.append_nil] at this
        exact this
      have H : Hid (HoldSt B b vT vR vL vW L Wr C p u m wr (.slice aF i capF) i vS (.slice aM Mk.length capM) Ls Mk col) := ⟨hk.opened _, hl3, by have := HC.out; rw [Hne.out] at this; exact this⟩
      have HBl0 := hid_mk hb
      clear hl hk hb hl3 HK HL HC
      clear HB
      obtain ⟨nn, hnn⟩ : ∃ nn, nn = i := ⟨_, rfl⟩
      rw [← hnn] at H Hne ⊢
      clear hnn
      obtain ⟨_, _, _, _, c2, _, _⟩ := keep_cells H.out.1.hb
      obtain ⟨aS, capS, rfl⟩ := own_shape H.out.1.oS
      have HB := hid_mk H.out.1.hB
      go_wp2_with (at_builtin; refine app_law _ rfl _ _ 56 rfl B 37 i1 (.slice none 0 0) 1 24 Tryd.underlying56 hi1 hy0 hy1 hy2 rfl (by decide) _ _ _ rfl (own_kept H.out.1.oS ((Out.refl 0 0 _).alloc _) (Nat.zero_le _)) ⟨wr.heap.size, 0, none⟩ 1 1 [.slice aF nn capF] rfl rfl (cell_one_new _ _ _) (one_cell _ rfl) (by decide) ?c3 ?c4 ?c5 ?_)
      case c3 => unfold maxLen; have := HM.out; have := HKe.out; have := HLn.out; omega
      case c4 => have := HM.out; have := HKe.out; have := HLn.out; omega
      case c5 => have := HB.out; simp; omega
      intro g1 cp1 wA own1 gr1
      obtain ⟨hb1, col1, bl1, H1⟩ := H.out.pushS ((Out.refl 0 0 _).alloc _) own1 gr1 rfl (by have := HLn.out; omega)
      obtain ⟨_, _, _, _, d2, _, df⟩ := keep_cells hb1
      have df2 := df 4
      obtain ⟨nS, hnS⟩ : ∃ nS, Ls.length + 1 = nS := ⟨_, rfl⟩
      rw [hnS] at H1 bl1 ⊢
      obtain ⟨W2, hW2⟩ : ∃ W2, wA.setCell ⟨b, 4, none⟩ (.slice (some ⟨g1, 0, none⟩) nS cp1) = W2 := ⟨_, rfl⟩
      rw [hW2] at H1 bl1
      obtain ⟨_, _, _, _, _, e3, _⟩ := keep_cells H1.1.hb
      have HH1 := hid_mk H1
      have HBl1 := hid_mk (HBl0.out.trans bl1)
      have HnS := hid_mk hnS
      clear own1 gr1 hb1 df H1 bl1 hnS
      go_wp2_with (at_builtin; refine app_law _ rfl _ _ 57 rfl B 3 i0 (.int .i64 0) 1 8 Tryd.underlying57 hi0 hz0 hz1 hz2 rfl (by decide) _ _ _ rfl (own_kept HH1.out.1.oM ((Out.refl 0 0 _).alloc _) (Nat.zero_le _)) ⟨W2.heap.size, 0, none⟩ 1 1 [.int .i64 m] rfl rfl (cell_one_new _ _ _) (one_cell _ rfl) (by decide) ?c3 ?c4 ?c5 ?_)
      case c3 => unfold maxLen; have := HM.out; have := HKe.out; omega
      case c4 => have := HM.out; have := HKe.out; omega
      case c5 => have := HH1.out.1.hB; simp; omega
      intro g2 cp2 wB own2 gr2
      obtain ⟨hb2, col2, bl2, H2⟩ := HH1.out.pushM ((Out.refl 0 0 _).alloc _) own2 gr2 rfl (by rw [← HLn.out]; simp) (by have := HN.out; have := Hne.out; omega)
      obtain ⟨_, _, _, _, _, f3, ff⟩ := keep_cells hb2
      have ff3 := ff 5
      obtain ⟨nM, hnM⟩ : ∃ nM, Mk.length + 1 = nM := ⟨_, rfl⟩
      rw [hnM] at H2 bl2 ⊢
      obtain ⟨W3, hW3⟩ : ∃ W3, wB.setCell ⟨b, 5, none⟩ (.slice (some ⟨g2, 0, none⟩) nM cp2) = W3 := ⟨_, rfl⟩
      rw [hW3] at H2 bl2
      have HH2 := hid_mk H2
      have HBl2 := hid_mk (HBl1.out.trans bl2)
      have HnM := hid_mk hnM
      clear own2 gr2 hb2 ff H2 bl2 hnM d2 df2 e3 c2 hW2
      go_wp2_with fail
      have hK3 : Hid (nM = Mk.length + 1) := HnM.out.symm
      have HL3 : Hid ((Ls ++ [Value.slice aF nn capF]).length = (Mk ++ [m]).length) := by show _ = _; have := HLn.out; simp; omega
      have HM3 : Hid ((Mk ++ [m]).length = nM + cntH 0) := by show _ = _; have := HnM.out; simp [cntH]; omega
      go_loopw [6, 7] (fun x y wr => ∃ (j : Nat) (vS' vM' : Value) (Ls' : List Value) (Mk' : List Nat) (col' : Nat → Nat), j ≤ 40 ∧ y = .int .i64 j ∧ HoldSt B b vT vR vL vW L Wr C p u m wr x (nn + j) vS' vM' Ls' Mk' col' ∧ Ls'.length = Mk'.length ∧ Mk'.length = nM + cntH j ∧ Fix col col' w wr) (fun _ y _ => 40 - (intOf y).toNat)
      case atStart => exact ⟨0, _, _, _, _, _, by omega, rfl, HH2.out, HL3.out, HM3.out, HBl2.out⟩
      case round =>
        clear HH2 HL3 HM3 HBl2 HH1 HBl1 HB H HBl0 f3 ff3 hW3
        obtain ⟨j, vS', vM', Ls', Mk', col', j1, rfl, hst, hl1, hl2, hbl⟩ := hrel
        obtain ⟨aX, capX, rfl⟩ := own_shape hst.ownF
        have HS := hid_mk hst
        have HL1 := hid_mk hl1
        have HL2 := hid_mk hl2
        have HBl := hid_mk hbl
        have HC := hid_mk (cnt_le j)
        have b0 : (0 : Int) ≤ (j : Int) := by omega
        clear hst hl1 hl2 hbl
        by_cases hj : j < 40
        · have b1 : (j : Int) < 40 := by omega
          go_wp2_with (at_builtin; refine app_law _ rfl _ _ 37 rfl B 45 i2 (.agg #[.int .i64 0, .int .i64 0, .int .i64 0]) 3 24 Tryd.underlying37 hi2 hx0 hx1 hx2 rfl (by decide) _ _ _ rfl (own_kept HS.out.ownF ((Out.refl 0 0 _).alloc _) (Nat.zero_le _)) ⟨wr.heap.size, 0, none⟩ 1 1 [.int .i64 (-(m : Int)), .int .i64 0, .int .i64 0] rfl rfl (three_new _ _ _ _ _) (three_cells _ _ _) (by decide) ?c3 ?c4 ?c5 ?_)
          case c3 => unfold maxLen; have := HN.out; have := Hne.out; omega
          case c4 => have := HN.out; have := Hne.out; omega
          case c5 => have := HS.out.1.hB; simp; omega
          intro g cap wC own gr
          obtain ⟨colC, blC, hC⟩ := HS.out.grow ((Out.refl 0 0 _).alloc _) own gr rfl
          obtain ⟨nF, hnF⟩ : ∃ nF, nn + j + 1 = nF := ⟨_, rfl⟩
          rw [hnF] at hC ⊢
          have HnF := hid_mk hnF
          have HBC := hid_mk (HBl.out.trans blC)
          obtain ⟨aS', capS', rfl⟩ := own_shape hC.1.oS
          obtain ⟨_, _, _, _, q2, _, _⟩ := keep_cells hC.1.hb
          have HSC := hid_mk hC
          clear own gr blC hC hnF
          by_cases hin : j < 16 ∨ j = 39
          · have HCn := hid_mk (cnt_in hin)
            have hcond : (decide ((j : Int) < 16) || ((j : Int) == 39)) = true := by
              rcases hin with h | h
              · have : decide ((j : Int) < 16) = true := by simp; omega
                rw [this]; rfl
              · have : ((j : Int) == 39) = true := by simp; omega
                rw [this, Bool.or_true]
            rcases hin with hin | hin
            · have b2 : (j : Int) < 16 := by omega
              clear hcond
              go_wp2_with (at_builtin; refine app_law _ rfl _ _ 56 rfl B 37 i1 (.slice none 0 0) 1 24 Tryd.underlying56 hi1 hy0 hy1 hy2 rfl (by decide) _ _ _ rfl (own_kept HSC.out.1.oS ((Out.refl 0 0 _).alloc _) (Nat.zero_le _)) ⟨wC.heap.size, 0, none⟩ 1 1 [.slice (some ⟨g, 0, none⟩) nF cap] rfl rfl (cell_one_new _ _ _) (one_cell _ rfl) (by decide) ?c3 ?c4 ?c5 ?_)
              case c3 => unfold maxLen; have := HM.out; have := HKe.out; have := HL1.out; have := HL2.out; have := HC.out; have := HnM.out; omega
              case c4 => have := HM.out; have := HKe.out; have := HL1.out; have := HL2.out; have := HC.out; have := HnM.out; omega
              case c5 => have := HSC.out.1.hB; simp; omega
              intro g3 cp3 wD own3 gr3
              obtain ⟨hb3, col3, bl3, H3⟩ := HSC.out.pushS ((Out.refl 0 0 _).alloc _) own3 gr3 rfl (by have := HL1.out; omega)
              obtain ⟨_, _, _, _, d2, _, df⟩ := keep_cells hb3
              have df2 := df 4
              obtain ⟨nS3, hnS3⟩ : ∃ nS, Ls'.length + 1 = nS := ⟨_, rfl⟩
              rw [hnS3] at H3 bl3 ⊢
              obtain ⟨W4, hW4⟩ : ∃ W2, wD.setCell ⟨b, 4, none⟩ (.slice (some ⟨g3, 0, none⟩) nS3 cp3) = W2 := ⟨_, rfl⟩
              rw [hW4] at H3 bl3
              obtain ⟨aM', capM', rfl⟩ := own_shape H3.1.oM
              obtain ⟨_, _, _, _, _, e3, _⟩ := keep_cells H3.1.hb
              have HH3 := hid_mk H3
              have HBl3 := hid_mk (HBC.out.trans bl3)
              clear own3 gr3 hb3 df H3 bl3 hnS3
              go_wp2_with (at_builtin; refine app_law _ rfl _ _ 57 rfl B 3 i0 (.int .i64 0) 1 8 Tryd.underlying57 hi0 hz0 hz1 hz2 rfl (by decide) _ _ _ rfl (own_kept HH3.out.1.oM ((Out.refl 0 0 _).alloc _) (Nat.zero_le _)) ⟨W4.heap.size, 0, none⟩ 1 1 [.int .i64 m] rfl rfl (cell_one_new _ _ _) (one_cell _ rfl) (by decide) ?c3 ?c4 ?c5 ?_)
              case c3 => unfold maxLen; have := HM.out; have := HKe.out; have := HL2.out; have := HC.out; have := HnM.out; omega
              case c4 => have := HM.out; have := HKe.out; have := HL2.out; have := HC.out; have := HnM.out; omega
              case c5 => have := HH3.out.1.hB; simp; omega
              intro g4 cp4 wE own4 gr4
              obtain ⟨hb4, col4, bl4, H4⟩ := HH3.out.pushM ((Out.refl 0 0 _).alloc _) own4 gr4 rfl (by rw [← HL1.out]; simp) (by have := HN.out; have := Hne.out; have := HnF.out; omega)
              obtain ⟨_, _, _, _, _, f3, ff⟩ := keep_cells hb4
              have ff3 := ff 5
              obtain ⟨nM4, hnM4⟩ : ∃ nM, Mk'.length + 1 = nM := ⟨_, rfl⟩
              rw [hnM4] at H4 bl4 ⊢
              obtain ⟨W5, hW5⟩ : ∃ W3, wE.setCell ⟨b, 5, none⟩ (.slice (some ⟨g4, 0, none⟩) nM4 cp4) = W3 := ⟨_, rfl⟩
              rw [hW5] at H4 bl4
              have HH4 := hid_mk H4
              have HBl4 := hid_mk (HBl3.out.trans bl4)
              have HnM4 := hid_mk hnM4
              clear own4 gr4 hb4 ff H4 bl4 hnM4 d2 df2 e3 hW4
              go_wp2
              go_roundw
              case rel =>
                refine ⟨j + 1, .slice (some ⟨g3, 0, none⟩) nS3 cp3, .slice (some ⟨g4, 0, none⟩) nM4 cp4, Ls' ++ [.slice (some ⟨g, 0, none⟩) nF cap], Mk' ++ [m], col4, by omega, by go_num, ?_, by have := HL1.out; rw [List.length_append, List.length_append]; exact congrArg (· + 1) this, by have := HL2.out; have h2 := HCn.out; rw [List.length_append]; show Mk'.length + 1 = _; omega, HBl4.out⟩
                rw [show nn + (j + 1) = nF from by have := HnF.out; omega]
                exact HH4.out
              case measure => simp [intOf]; omega
            · subst hin
              clear hcond
              rw [show ((39 : Nat) : Int) = 39 from rfl]
              go_wp2_with (at_builtin; refine app_law _ rfl _ _ 56 rfl B 37 i1 (.slice none 0 0) 1 24 Tryd.underlying56 hi1 hy0 hy1 hy2 rfl (by decide) _ _ _ rfl (own_kept HSC.out.1.oS ((Out.refl 0 0 _).alloc _) (Nat.zero_le _)) ⟨wC.heap.size, 0, none⟩ 1 1 [.slice (some ⟨g, 0, none⟩) nF cap] rfl rfl (cell_one_new _ _ _) (one_cell _ rfl) (by decide) ?c3 ?c4 ?c5 ?_)
              case c3 => unfold maxLen; have := HM.out; have := HKe.out; have := HL1.out; have := HL2.out; have := HC.out; have := HnM.out; omega
              case c4 => have := HM.out; have := HKe.out; have := HL1.out; have := HL2.out; have := HC.out; have := HnM.out; omega
              case c5 => have := HSC.out.1.hB; simp; omega
              intro g3 cp3 wD own3 gr3
              obtain ⟨hb3, col3, bl3, H3⟩ := HSC.out.pushS ((Out.refl 0 0 _).alloc _) own3 gr3 rfl (by have := HL1.out; omega)
              obtain ⟨_, _, _, _, d2, _, df⟩ := keep_cells hb3
              have df2 := df 4
              obtain ⟨nS3, hnS3⟩ : ∃ nS, Ls'.length + 1 = nS := ⟨_, rfl⟩
              rw [hnS3] at H3 bl3 ⊢
              obtain ⟨W4, hW4⟩ : ∃ W2, wD.setCell ⟨b, 4, none⟩ (.slice (some ⟨g3, 0, none⟩) nS3 cp3) = W2 := ⟨_, rfl⟩
              rw [hW4] at H3 bl3
              obtain ⟨aM', capM', rfl⟩ := own_shape H3.1.oM
              obtain ⟨_, _, _, _, _, e3, _⟩ := keep_cells H3.1.hb
              have HH3 := hid_mk H3
              have HBl3 := hid_mk (HBC.out.trans bl3)
              clear own3 gr3 hb3 df H3 bl3 hnS3
              go_wp2_with (at_builtin; refine app_law _ rfl _ _ 57 rfl B 3 i0 (.int .i64 0) 1 8 Tryd.underlying57 hi0 hz0 hz1 hz2 rfl (by decide) _ _ _ rfl (own_kept HH3.out.1.oM ((Out.refl 0 0 _).alloc _) (Nat.zero_le _)) ⟨W4.heap.size, 0, none⟩ 1 1 [.int .i64 m] rfl rfl (cell_one_new _ _ _) (one_cell _ rfl) (by decide) ?c3 ?c4 ?c5 ?_)
              case c3 => unfold maxLen; have := HM.out; have := HKe.out; have := HL2.out; have := HC.out; have := HnM.out; omega
              case c4 => have := HM.out; have := HKe.out; have := HL2.out; have := HC.out; have := HnM.out; omega
              case c5 => have := HH3.out.1.hB; simp; omega
              intro g4 cp4 wE own4 gr4
              obtain ⟨hb4, col4, bl4, H4⟩ := HH3.out.pushM ((Out.refl 0 0 _).alloc _) own4 gr4 rfl (by rw [← HL1.out]; simp) (by have := HN.out; have := Hne.out; have := HnF.out; omega)
              obtain ⟨_, _, _, _, _, f3, ff⟩ := keep_cells hb4
              have ff3 := ff 5
              obtain ⟨nM4, hnM4⟩ : ∃ nM, Mk'.length + 1 = nM := ⟨_, rfl⟩
              rw [hnM4] at H4 bl4 ⊢
              obtain ⟨W5, hW5⟩ : ∃ W3, wE.setCell ⟨b, 5, none⟩ (.slice (some ⟨g4, 0, none⟩) nM4 cp4) = W3 := ⟨_, rfl⟩
              rw [hW5] at H4 bl4
              have HH4 := hid_mk H4
              have HBl4 := hid_mk (HBl3.out.trans bl4)
              have HnM4 := hid_mk hnM4
              clear own4 gr4 hb4 ff H4 bl4 hnM4 d2 df2 e3 hW4
              go_wp2
              go_roundw
              case rel =>
                refine ⟨40, .slice (some ⟨g3, 0, none⟩) nS3 cp3, .slice (some ⟨g4, 0, none⟩) nM4 cp4, Ls' ++ [.slice (some ⟨g, 0, none⟩) nF cap], Mk' ++ [m], col4, by omega, by go_num, ?_, by have := HL1.out; rw [List.length_append, List.length_append]; exact congrArg (· + 1) this, by have := HL2.out; have h2 := (show cntH 40 = cntH 39 + 1 from HCn.out); rw [List.length_append]; show Mk'.length + 1 = _; omega, HBl4.out⟩
                rw [show nn + (40) = nF from by have := HnF.out; omega]
                exact HH4.out
              case measure => simp [intOf]
          · have b2 : (16 : Int) ≤ (j : Int) := by omega
            have b3 : ((j : Int) == 39) = false := by simp; omega
            have HCn := hid_mk (cnt_no (j := j) (by omega) (by omega))
            go_wp2
            go_roundw
            case rel =>
              refine ⟨j + 1, .slice aS' Ls'.length capS', vM', Ls', Mk', colC, by omega, by go_num, ?_, HL1.out, by rw [HCn.out]; exact HL2.out, HBC.out⟩
              rw [show nn + (j + 1) = nF from by have := HnF.out; omega]
              exact HSC.out
            case measure => simp [intOf]; omega
        · have : j = 40 := by omega
          subst this
          rw [show ((40 : Nat) : Int) = 40 from rfl]
          go_wp2
          obtain ⟨colE, eE, hE⟩ := HS.out.1.shut HS.out.2.1 HS.out.2.2
          exact bodyPost_end (results_none Tryd.results29 _ _ _) rfl ⟨rfl, _, _, _, _, colE, hE, HL1.out, by have := HL2.out; have := HnM.out; have := HKe.out; have h17 : cntH 40 = 17 := rfl; omega, HBl.out.recol eE⟩
end Go.Proofs.YtfkmaanfgkkjcaaDoor
