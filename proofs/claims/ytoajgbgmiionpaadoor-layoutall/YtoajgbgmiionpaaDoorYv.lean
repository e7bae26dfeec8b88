/- hold -/
import Derived.Test.YtoajgbgmiionpaaDoorYu
namespace Go.Proofs.YtoajgbgmiionpaaDoor
open Go.RowKit
set_option linter.unusedVariables false
set_option linter.unusedSimpArgs false

theorem info_sl : (Tryd.prog.info? 26).map (fun i => (i.zero, i.size, i.bytes)) = some (some (.slice none 0 0), 1, 24) := by kernel_rfl
def HoldEnd (B b : Nat) (vL vW : Value) (L Wr : List Value) (C : Nat → List Nat) (p : Nat) (u : Bool) (K : Nat) (col0 : Nat → Nat) (w w' : World) : Prop :=
  ∃ vS vM Ls Mk col, Keep B w' b vL vW vS vM L Wr Ls Mk C col none p u ∧ Ls.length = Mk.length ∧ Mk.length = K ∧ Fix col0 col w w'
theorem own_shape {w : World} {B n : Nat} {T : TypeId} {v : Value} {xs : List Value} (h : w.ownsRow B T 1 v n xs) : ∃ a cap, v = .slice a n cap := by
  rcases h.2 with ⟨e, h0⟩ | ⟨g, cap, cur, e, _⟩
  · exact ⟨none, 0, by rw [e, h0]⟩
  · exact ⟨_, _, e⟩
theorem one_cell (x : Value) (hx : x.oneCell' = true) : ∀ u ∈ [x], u.oneCell' = true := by
  intro u hu; simp at hu; subst hu; exact hx
def cntH (j : Nat) : Nat := if j ≤ 16 then j else if j ≤ 39 then 16 else 17
theorem cnt_in {j : Nat} (h : j < 16 ∨ j = 39) : cntH (j + 1) = cntH j + 1 := by
  unfold cntH
  rcases h with h | h
  · rw [if_pos (by omega), if_pos (by omega)]
  · subst h; rfl
theorem cnt_no {j : Nat} (h : 16 ≤ j) (h2 : j < 39) : cntH (j + 1) = cntH j := by
  unfold cntH
  rw [if_neg (by omega), if_pos (by omega)]
  by_cases e : j ≤ 16
  · rw [if_pos e]; omega
  · rw [if_neg e, if_pos (by omega)]
theorem cnt_le (j : Nat) : cntH j ≤ 17 := by
  unfold cntH
  split
  · omega
  · split <;> omega
theorem HoldSt.ownF {B b : Nat} {vL vW : Value} {L Wr : List Value} {C : Nat → List Nat} {p : Nat} {u : Bool} {m : Nat} {w : World} {vf : Value} {N : Nat} {vS vM : Value} {Ls : List Value} {Mk : List Nat} {col : Nat → Nat}
    (h : HoldSt B b vL vW L Wr C p u m w vf N vS vM Ls Mk col) : w.ownsRow B 3 1 vf N (ints (List.replicate N m)) := by
  have := h.2.1
  unfold ListIs at this
  rw [List.length_replicate] at this
  exact this
set_option maxRecDepth 100000 in
set_option maxHeartbeats 4000000 in
theorem hold_any {B b : Nat} {vL vW : Value} {L Wr : List Value} {C : Nat → List Nat} {p : Nat} {u : Bool} {m : Nat} {w : World} {l : Value} {n : Nat} {vS vM : Value} {Ls : List Value} {Mk : List Nat} {col : Nat → Nat}
    (h : HoldSt B b vL vW L Wr C p u m w l n vS vM Ls Mk col) (hlen : Ls.length = Mk.length) (hK : Mk.length ≤ 6000) (hn : n ≤ 1024) (hm : m ≤ 3000000) :
    Calls Tryd.prog 29 #[.pointer (some ⟨b, 0, none⟩), l, .int .i64 m] w fun e w' => e = .returned (.tuple #[]) ∧ HoldEnd B b vL vW L Wr C p u (Mk.length + 18) col w w' := by
  have H := hid_mk h
  obtain ⟨_, _, c2, _, _⟩ := keep_cells h.1.hb
  obtain ⟨i0, hi0, hz0, hz1, hz2⟩ := info_parts info_int
  obtain ⟨i1, hi1, hy0, hy1, hy2⟩ := info_parts info_sl
  obtain ⟨aS, capS, rfl⟩ := own_shape h.1.oS
  obtain ⟨aF, capF, hl⟩ := own_shape h.2.1
  rw [List.length_replicate] at hl
  subst hl
  have HLn := hid_mk hlen
  have HK := hid_mk hK
  have HN := hid_mk hn
  have HB := hid_mk h.1.hB
  clear h hlen hK hn
  go_enter Tryd.func29, Tryd.ntmps29
  go_wp2_with (at_builtin; refine app_law _ rfl _ _ 30 rfl B 26 i1 (.slice none 0 0) 24 Tryd.underlying30 hi1 hy0 hy1 hy2 rfl _ _ _ rfl (own_kept H.out.1.oS ((Out.refl 0 0 _).alloc _) (Nat.zero_le _)) ⟨w.heap.size, 0, none⟩ 1 1 [.slice aF n capF] rfl rfl (cell_one_new _ _ _) (one_cell _ rfl) (by decide) ?c3 ?c4 ?c5 ?_)
  case c3 => unfold maxLen; have := HK.out; have := HLn.out; omega
  case c4 => have := HK.out; have := HLn.out; omega
  case c5 => have := HB.out; simp; omega
  intro g1 cp1 wA own1 gr1
  obtain ⟨hb1, col1, bl1, H1⟩ := H.out.pushS ((Out.refl 0 0 _).alloc _) own1 gr1 rfl (by have := HLn.out; omega)
  obtain ⟨_, _, d2, _, df⟩ := keep_cells hb1
  have df2 := df 2
  obtain ⟨nS, hnS⟩ : ∃ nS, Ls.length + 1 = nS := ⟨_, rfl⟩
  rw [hnS] at H1 bl1 ⊢
  obtain ⟨W2, hW2⟩ : ∃ W2, wA.setCell ⟨b, 2, none⟩ (.slice (some ⟨g1, 0, none⟩) nS cp1) = W2 := ⟨_, rfl⟩
  rw [hW2] at H1 bl1
  obtain ⟨aM, capM, rfl⟩ := own_shape H1.1.oM
  obtain ⟨_, _, _, e3, _⟩ := keep_cells H1.1.hb
  have HH1 := hid_mk H1
  have HBl1 := hid_mk bl1
  have HnS := hid_mk hnS
  clear own1 gr1 hb1 df H1 bl1 hnS
  go_wp2_with (at_builtin; refine app_law _ rfl _ _ 26 rfl B 3 i0 (.int .i64 0) 8 Tryd.underlying26 hi0 hz0 hz1 hz2 rfl _ _ _ rfl (own_kept HH1.out.1.oM ((Out.refl 0 0 _).alloc _) (Nat.zero_le _)) ⟨W2.heap.size, 0, none⟩ 1 1 [.int .i64 m] rfl rfl (cell_one_new _ _ _) (one_cell _ rfl) (by decide) ?c3 ?c4 ?c5 ?_)
  case c3 => unfold maxLen; have := HK.out; omega
  case c4 => have := HK.out; omega
  case c5 => have := HH1.out.1.hB; simp; omega
  intro g2 cp2 wB own2 gr2
  obtain ⟨hb2, col2, bl2, H2⟩ := HH1.out.pushM ((Out.refl 0 0 _).alloc _) own2 gr2 rfl (by rw [← HLn.out]; simp) (by have := HN.out; omega)
  obtain ⟨_, _, _, f3, ff⟩ := keep_cells hb2
  have ff3 := ff 3
  obtain ⟨nM, hnM⟩ : ∃ nM, Mk.length + 1 = nM := ⟨_, rfl⟩
  rw [hnM] at H2 bl2 ⊢
  obtain ⟨W3, hW3⟩ : ∃ W3, wB.setCell ⟨b, 3, none⟩ (.slice (some ⟨g2, 0, none⟩) nM cp2) = W3 := ⟨_, rfl⟩
  rw [hW3] at H2 bl2
  have HH2 := hid_mk H2
  have HBl2 := hid_mk (HBl1.out.trans bl2)
  have HnM := hid_mk hnM
  clear own2 gr2 hb2 ff H2 bl2 hnM d2 df2 e3 c2 hW2
  go_wp2_with fail
  have hK3 : Hid (nM = Mk.length + 1) := HnM.out.symm
  have HL3 : Hid ((Ls ++ [Value.slice aF n capF]).length = (Mk ++ [m]).length) := by show _ = _; have := HLn.out; simp; omega
  have HM3 : Hid ((Mk ++ [m]).length = nM + cntH 0) := by show _ = _; have := HnM.out; simp [cntH]; omega
  go_loopw [6, 7] (fun x y wr => ∃ (j : Nat) (vS' vM' : Value) (Ls' : List Value) (Mk' : List Nat) (col' : Nat → Nat), j ≤ 40 ∧ y = .int .i64 j ∧ HoldSt B b vL vW L Wr C p u m wr x (n + j) vS' vM' Ls' Mk' col' ∧ Ls'.length = Mk'.length ∧ Mk'.length = nM + cntH j ∧ Fix col col' w wr) (fun _ y _ => 40 - (intOf y).toNat)
  case atStart => exact ⟨0, _, _, _, _, _, by omega, rfl, HH2.out, HL3.out, HM3.out, HBl2.out⟩
  case round =>
    clear HH2 HL3 HM3 HBl2 HH1 HBl1 HB H f3 ff3 hW3
    obtain ⟨j, vS', vM', Ls', Mk', col', j1, rfl, hst, hl1, hl2, hbl⟩ := hrel
    obtain ⟨aX, capX, rfl⟩ := own_shape hst.ownF
    have HS := hid_mk hst
    have HL1 := hid_mk hl1
    have HL2 := hid_mk hl2
    have HBl := hid_mk hbl
    have HC := hid_mk (cnt_le j)
    have b0 : (0 : Int) ≤ (j : Int) := by omega
    clear hst hl1 hl2 hbl
    by_cases hj : j < 40
    · have b1 : (j : Int) < 40 := by omega
      go_wp2_with (at_builtin; refine app_law _ rfl _ _ 26 rfl B 3 i0 (.int .i64 0) 8 Tryd.underlying26 hi0 hz0 hz1 hz2 rfl _ _ _ rfl (own_kept HS.out.ownF ((Out.refl 0 0 _).alloc _) (Nat.zero_le _)) ⟨wr.heap.size, 0, none⟩ 1 1 [.int .i64 m] rfl rfl (cell_one_new _ _ _) (one_cell _ rfl) (by decide) ?c3 ?c4 ?c5 ?_)
      case c3 => unfold maxLen; have := HN.out; omega
      case c4 => have := HN.out; omega
      case c5 => have := HS.out.1.hB; simp; omega
      intro g cap wC own gr
      obtain ⟨colC, blC, hC⟩ := HS.out.grow ((Out.refl 0 0 _).alloc _) own gr rfl
      obtain ⟨nF, hnF⟩ : ∃ nF, n + j + 1 = nF := ⟨_, rfl⟩
      rw [hnF] at hC ⊢
      have HnF := hid_mk hnF
      have HBC := hid_mk (HBl.out.trans blC)
      obtain ⟨aS', capS', rfl⟩ := own_shape hC.1.oS
      obtain ⟨_, _, q2, _, _⟩ := keep_cells hC.1.hb
      have HSC := hid_mk hC
      clear own gr blC hC hnF
      by_cases hin : j < 16 ∨ j = 39
      · have HCn := hid_mk (cnt_in hin)
        have hcond : (decide ((j : Int) < 16) || ((j : Int) == 39)) = true := by
          rcases hin with h | h
          · have : decide ((j : Int) < 16) = true := by simp; omega
            rw [this]; rfl
          · have : ((j : Int) == 39) = true := by simp; omega
            rw [this, Bool.or_true]
        rcases hin with hin | hin
        · have b2 : (j : Int) < 16 := by omega
          clear hcond
          go_wp2_with (at_builtin; refine app_law _ rfl _ _ 30 rfl B 26 i1 (.slice none 0 0) 24 Tryd.underlying30 hi1 hy0 hy1 hy2 rfl _ _ _ rfl (own_kept HSC.out.1.oS ((Out.refl 0 0 _).alloc _) (Nat.zero_le _)) ⟨wC.heap.size, 0, none⟩ 1 1 [.slice (some ⟨g, 0, none⟩) nF cap] rfl rfl (cell_one_new _ _ _) (one_cell _ rfl) (by decide) ?c3 ?c4 ?c5 ?_)
          case c3 => unfold maxLen; have := HK.out; have := HL1.out; have := HL2.out; have := HC.out; have := HnM.out; omega
          case c4 => have := HK.out; have := HL1.out; have := HL2.out; have := HC.out; have := HnM.out; omega
          case c5 => have := HSC.out.1.hB; simp; omega
          intro g3 cp3 wD own3 gr3
          obtain ⟨hb3, col3, bl3, H3⟩ := HSC.out.pushS ((Out.refl 0 0 _).alloc _) own3 gr3 rfl (by have := HL1.out; omega)
          obtain ⟨_, _, d2, _, df⟩ := keep_cells hb3
          have df2 := df 2
          obtain ⟨nS3, hnS3⟩ : ∃ nS, Ls'.length + 1 = nS := ⟨_, rfl⟩
          rw [hnS3] at H3 bl3 ⊢
          obtain ⟨W4, hW4⟩ : ∃ W2, wD.setCell ⟨b, 2, none⟩ (.slice (some ⟨g3, 0, none⟩) nS3 cp3) = W2 := ⟨_, rfl⟩
          rw [hW4] at H3 bl3
          obtain ⟨aM', capM', rfl⟩ := own_shape H3.1.oM
          obtain ⟨_, _, _, e3, _⟩ := keep_cells H3.1.hb
          have HH3 := hid_mk H3
          have HBl3 := hid_mk (HBC.out.trans bl3)
          clear own3 gr3 hb3 df H3 bl3 hnS3
          go_wp2_with (at_builtin; refine app_law _ rfl _ _ 26 rfl B 3 i0 (.int .i64 0) 8 Tryd.underlying26 hi0 hz0 hz1 hz2 rfl _ _ _ rfl (own_kept HH3.out.1.oM ((Out.refl 0 0 _).alloc _) (Nat.zero_le _)) ⟨W4.heap.size, 0, none⟩ 1 1 [.int .i64 m] rfl rfl (cell_one_new _ _ _) (one_cell _ rfl) (by decide) ?c3 ?c4 ?c5 ?_)
          case c3 => unfold maxLen; have := HK.out; have := HL2.out; have := HC.out; have := HnM.out; omega
          case c4 => have := HK.out; have := HL2.out; have := HC.out; have := HnM.out; omega
          case c5 => have := HH3.out.1.hB; simp; omega
          intro g4 cp4 wE own4 gr4
          obtain ⟨hb4, col4, bl4, H4⟩ := HH3.out.pushM ((Out.refl 0 0 _).alloc _) own4 gr4 rfl (by rw [← HL1.out]; simp) (by have := HN.out; have := HnF.out; omega)
          obtain ⟨_, _, _, f3, ff⟩ := keep_cells hb4
          have ff3 := ff 3
          obtain ⟨nM4, hnM4⟩ : ∃ nM, Mk'.length + 1 = nM := ⟨_, rfl⟩
          rw [hnM4] at H4 bl4 ⊢
          obtain ⟨W5, hW5⟩ : ∃ W3, wE.setCell ⟨b, 3, none⟩ (.slice (some ⟨g4, 0, none⟩) nM4 cp4) = W3 := ⟨_, rfl⟩
          rw [hW5] at H4 bl4
          have HH4 := hid_mk H4
          have HBl4 := hid_mk (HBl3.out.trans bl4)
          have HnM4 := hid_mk hnM4
          clear own4 gr4 hb4 ff H4 bl4 hnM4 d2 df2 e3 hW4
          go_wp2
          go_roundw
          case rel =>
            refine ⟨j + 1, .slice (some ⟨g3, 0, none⟩) nS3 cp3, .slice (some ⟨g4, 0, none⟩) nM4 cp4, Ls' ++ [.slice (some ⟨g, 0, none⟩) nF cap], Mk' ++ [m], col4, by omega, by go_num, ?_, by have := HL1.out; rw [List.length_append, List.length_append]; exact congrArg (· + 1) this, by have := HL2.out; have h2 := HCn.out; rw [List.length_append]; show Mk'.length + 1 = _; omega, HBl4.out⟩
            rw [show n + (j + 1) = nF from by have := HnF.out; omega]
            exact HH4.out
          case measure => simp [intOf]; omega
        · subst hin
          clear hcond
          rw [show ((39 : Nat) : Int) = 39 from rfl]
          go_wp2_with (at_builtin; refine app_law _ rfl _ _ 30 rfl B 26 i1 (.slice none 0 0) 24 Tryd.underlying30 hi1 hy0 hy1 hy2 rfl _ _ _ rfl (own_kept HSC.out.1.oS ((Out.refl 0 0 _).alloc _) (Nat.zero_le _)) ⟨wC.heap.size, 0, none⟩ 1 1 [.slice (some ⟨g, 0, none⟩) nF cap] rfl rfl (cell_one_new _ _ _) (one_cell _ rfl) (by decide) ?c3 ?c4 ?c5 ?_)
          case c3 => unfold maxLen; have := HK.out; have := HL1.out; have := HL2.out; have := HC.out; have := HnM.out; omega
          case c4 => have := HK.out; have := HL1.out; have := HL2.out; have := HC.out; have := HnM.out; omega
          case c5 => have := HSC.out.1.hB; simp; omega
          intro g3 cp3 wD own3 gr3
          obtain ⟨hb3, col3, bl3, H3⟩ := HSC.out.pushS ((Out.refl 0 0 _).alloc _) own3 gr3 rfl (by have := HL1.out; omega)
          obtain ⟨_, _, d2, _, df⟩ := keep_cells hb3
          have df2 := df 2
          obtain ⟨nS3, hnS3⟩ : ∃ nS, Ls'.length + 1 = nS := ⟨_, rfl⟩
          rw [hnS3] at H3 bl3 ⊢
          obtain ⟨W4, hW4⟩ : ∃ W2, wD.setCell ⟨b, 2, none⟩ (.slice (some ⟨g3, 0, none⟩) nS3 cp3) = W2 := ⟨_, rfl⟩
          rw [hW4] at H3 bl3
          obtain ⟨aM', capM', rfl⟩ := own_shape H3.1.oM
          obtain ⟨_, _, _, e3, _⟩ := keep_cells H3.1.hb
          have HH3 := hid_mk H3
          have HBl3 := hid_mk (HBC.out.trans bl3)
          clear own3 gr3 hb3 df H3 bl3 hnS3
          go_wp2_with (at_builtin; refine app_law _ rfl _ _ 26 rfl B 3 i0 (.int .i64 0) 8 Tryd.underlying26 hi0 hz0 hz1 hz2 rfl _ _ _ rfl (own_kept HH3.out.1.oM ((Out.refl 0 0 _).alloc _) (Nat.zero_le _)) ⟨W4.heap.size, 0, none⟩ 1 1 [.int .i64 m] rfl rfl (cell_one_new _ _ _) (one_cell _ rfl) (by decide) ?c3 ?c4 ?c5 ?_)
          case c3 => unfold maxLen; have := HK.out; have := HL2.out; have := HC.out; have := HnM.out; omega
          case c4 => have := HK.out; have := HL2.out; have := HC.out; have := HnM.out; omega
          case c5 => have := HH3.out.1.hB; simp; omega
          intro g4 cp4 wE own4 gr4
          obtain ⟨hb4, col4, bl4, H4⟩ := HH3.out.pushM ((Out.refl 0 0 _).alloc _) own4 gr4 rfl (by rw [← HL1.out]; simp) (by have := HN.out; have := HnF.out; omega)
          obtain ⟨_, _, _, f3, ff⟩ := keep_cells hb4
          have ff3 := ff 3
          obtain ⟨nM4, hnM4⟩ : ∃ nM, Mk'.length + 1 = nM := ⟨_, rfl⟩
          rw [hnM4] at H4 bl4 ⊢
          obtain ⟨W5, hW5⟩ : ∃ W3, wE.setCell ⟨b, 3, none⟩ (.slice (some ⟨g4, 0, none⟩) nM4 cp4) = W3 := ⟨_, rfl⟩
          rw [hW5] at H4 bl4
          have HH4 := hid_mk H4
          have HBl4 := hid_mk (HBl3.out.trans bl4)
          have HnM4 := hid_mk hnM4
          clear own4 gr4 hb4 ff H4 bl4 hnM4 d2 df2 e3 hW4
          go_wp2
          go_roundw
          case rel =>
            refine ⟨40, .slice (some ⟨g3, 0, none⟩) nS3 cp3, .slice (some ⟨g4, 0, none⟩) nM4 cp4, Ls' ++ [.slice (some ⟨g, 0, none⟩) nF cap], Mk' ++ [m], col4, by omega, by go_num, ?_, by have := HL1.out; rw [List.length_append, List.length_append]; exact congrArg (· + 1) this, by have := HL2.out; have h2 := (show cntH 40 = cntH 39 + 1 from HCn.out); rw [List.length_append]; show Mk'.length + 1 = _; omega, HBl4.out⟩
            rw [show n + (40) = nF from by have := HnF.out; omega]
            exact HH4.out
          case measure => simp [intOf]
      · have b2 : (16 : Int) ≤ (j : Int) := by omega
        have b3 : ((j : Int) == 39) = false := by simp; omega
        have HCn := hid_mk (cnt_no (j := j) (by omega) (by omega))
        go_wp2
        go_roundw
        case rel =>
          refine ⟨j + 1, .slice aS' Ls'.length capS', vM', Ls', Mk', colC, by omega, by go_num, ?_, HL1.out, by rw [HCn.out]; exact HL2.out, HBC.out⟩
          rw [show n + (j + 1) = nF from by have := HnF.out; omega]
          exact HSC.out
        case measure => simp [intOf]; omega
    · have : j = 40 := by omega
      subst this
      rw [show ((40 : Nat) : Int) = 40 from rfl]
      go_wp2
      obtain ⟨colE, eE, hE⟩ := HS.out.1.shut HS.out.2.1 HS.out.2.2
      exact bodyPost_end (results_none Tryd.results29 _ _ _) rfl ⟨rfl, _, _, _, _, colE, hE, HL1.out, by have := HL2.out; have := HnM.out; have h17 : cntH 40 = 17 := rfl; omega, HBl.out.recol eE⟩
end Go.Proofs.YtoajgbgmiionpaaDoor
