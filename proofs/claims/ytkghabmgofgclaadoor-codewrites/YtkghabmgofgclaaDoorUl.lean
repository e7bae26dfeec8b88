/- package code: programs are written -/
import Derived.Test.YtkghabmgofgclaaDoorUk
import Derived.Lib.SmallJoins
namespace Go.Proofs.YtkghabmgofgclaaDoor
open Go.RowKit
set_option linter.unusedVariables false
set_option linter.unusedSimpArgs false

theorem four_bytes (w : World) : BytesAt (w.alloc (.cells #[.int .u8 104, .int .u8 116, .int .u8 104, .int .u8 1] 5 (4, 5))) (some ⟨w.heap.size, 0, none⟩) [104, 116, 104, 1] :=
  ⟨by intro b hb; simp at hb; omega, .inr ⟨w.heap.size, 0, rfl, fun j c hj => by
    rw [World.cell?_alloc_mark]
    match j, hj with
    | 0, hj => cases hj; rfl
    | 1, hj => cases hj; rfl
    | 2, hj => cases hj; rfl
    | 3, hj => cases hj; rfl
    | j + 4, hj => simp at hj⟩⟩
theorem put_four {w : World} {p H : Nat} {o : Option Nat} {F : List Int} (h : WR w p o F) (hH : w.heap.size = H) :
    Calls Tryd.prog 61 #[.pointer (some ⟨p, 0, none⟩), .slice (some ⟨H, 0, none⟩) 4 4] (w.alloc (.cells #[.int .u8 104, .int .u8 116, .int .u8 104, .int .u8 1] 5 (4, 5))) fun e w' => e = .returned (.tuple #[]) ∧ ∃ o', WR w' p o' (F ++ [104, 116, 104, 1]) ∧ St p o w o' w' := by
  subst hH
  exact (put_any (n := 4) (h.alloc _) (four_bytes w) rfl (by omega)).mono fun e w' ⟨he, o', h2, h3⟩ => ⟨he, o', h2, ((St.refl p o w).alloc _).trans h3⟩
theorem ft_up {l : List (List Int)} {k : Nat} {x : List Int} (h : l[k]? = some x) : (l.take (k + 1)).flatMap encT = (l.take k).flatMap encT ++ (numB x.length ++ x) := by
  rw [List.take_add_one, h]; simp [encT]
theorem okt_up {l : List (List Int)} {k : Nat} {x : List Int} (h : l[k]? = some x) (hk : ∀ e ∈ l.take k, okT e) (hx : okT x) : ∀ e ∈ l.take (k + 1), okT e := by
  intro e he
  rw [List.take_add_one, h] at he
  rcases List.mem_append.1 he with q | q
  · exact hk e q
  · simp at q; subst q; exact hx
theorem ff_up {l : List (Int × Int × Int × List (Int × Int))} {k : Nat} {x : Int × Int × Int × List (Int × Int)} (h : l[k]? = some x) : (l.take (k + 1)).flatMap encF = (l.take k).flatMap encF ++ encF x := by
  rw [List.take_add_one, h]; simp
theorem okf_up {l : List (Int × Int × Int × List (Int × Int))} {k : Nat} {x : Int × Int × Int × List (Int × Int)} (h : l[k]? = some x) (hk : ∀ e ∈ l.take k, okF e) (hx : okF x) : ∀ e ∈ l.take (k + 1), okF e := by
  intro e he
  rw [List.take_add_one, h] at he
  rcases List.mem_append.1 he with q | q
  · exact hk e q
  · simp at q; subst q; exact hx
theorem take_all {α : Type} {l : List α} {k : Nat} (h : l.length = k) : l.take k = l := List.take_of_length_le (by omega)
theorem toNat_le {n : Nat} {m : Int} (h : (n : Int) ≤ m) : (n : Int) ≤ m := h
set_option maxRecDepth 100000 in
set_option maxHeartbeats 2000000 in
theorem program_any {w : World} {p B : Nat} {o : Option Nat} (h : WR w p o []) (hB : B ≤ p) (x : Int) (ts : List (List Int)) (fs : List (Int × Int × Int × List (Int × Int))) (ta fa : Option Addr) (nt tc nf fc : Nat) (hnt : ts.length = nt) (hnf : fs.length = nf) (hts : TxIn w B ta ts) (hfs : FnIn w B fa fs) (hM : ∀ f ∈ fs, MI f.2.2.2) :
    Calls Tryd.prog 39 #[.pointer (some ⟨p, 0, none⟩), .agg #[.int .i64 x, .slice ta nt tc, .slice fa nf fc]] w fun e w' => ∃ o', St p o w o' w' ∧ (e = .returned (.tuple #[]) ∧ okP (x, ts, fs) ∧ WR w' p o' (encP (x, ts, fs)) ∨ e = .panicked [stopP 62 0] ∧ ¬ okP (x, ts, fs)) := by
  have HB := hid_mk (Bl.new w #[.int .i64 x, .slice ta nt tc, .slice fa nf fc] 25)
  have k0 := HB.out.cell (i := 0) rfl
  have k1 := HB.out.cell (i := 1) rfl
  have k2 := HB.out.cell (i := 2) rfl
  have HW := hid_mk (h.alloc (.cells #[.int .i64 x, .slice ta nt tc, .slice fa nf fc] 25))
  have HS := hid_mk (St.refl p o (w.alloc (.cells #[.int .i64 x, .slice ta nt tc, .slice fa nf fc] 25)))
  have HS0 := hid_mk ((St.refl p o w).alloc (.cells #[.int .i64 x, .slice ta nt tc, .slice fa nf fc] 25))
  have hgp : Hid (w.heap.size ≠ p) := hid_mk (by have := h.lt; omega)
  have hog : Hid (o ≠ some w.heap.size) := hid_mk (h.off (Nat.le_refl _))
  have hcv := Go.Joins.run_convert_bytes_const_at (P := Tryd.prog) (w.alloc (.cells #[.int .i64 x, .slice ta nt tc, .slice fa nf fc] 25)) 33 5 #[.int .u8 104, .int .u8 116, .int .u8 104, .int .u8 1] 4 4 (w.heap.size + 1) (size_alloc _ _).symm Tryd.underlying33 Tryd.underlying5
  have HT := hid_mk hts
  have HF := hid_mk hfs
  have HM := hid_mk hM
  have HN := hid_mk hnt
  have HNf := hid_mk hnf
  have HW0 := hid_mk h
  clear h hts hfs hM hnt hnf
  by_cases h1 : 0 ≤ x ∧ x ≤ 64
  · by_cases h2 : 0 ≤ (nt : Int) ∧ (nt : Int) ≤ 64
    · go_enter Tryd.func39, Tryd.ntmps39
      go_wp2_with (first
        | (go_at_call 61; refine (put_four HW.out (size_alloc _ _)).mono ?_; rintro e w2 ⟨rfl, o2, hW2, hS2⟩; have HS := hid_mk (HS.out.trans hS2); have HW := hid_mk hW2; clear hW2 hS2; have bb := HS.out.bl HB.out hgp.out hog.out; have k0 := bb.cell (i := 0) rfl; have k1 := bb.cell (i := 1) rfl; have k2 := bb.cell (i := 2) rfl; clear bb)
        | (go_at_call 62; refine number_any HW.out _ _ _ (by decide) ?_ ?_ <;> first
          | (intro hno; exact absurd (by assumption) hno)
          | (intro hok; exact absurd hok (by assumption))
          | (intro hok w2 o2 hW2 hS2; have HS := hid_mk (HS.out.trans hS2); have HW := hid_mk hW2; clear hW2 hS2 hok; have bb := HS.out.bl HB.out hgp.out hog.out; have k0 := bb.cell (i := 0) rfl; have k1 := bb.cell (i := 1) rfl; have k2 := bb.cell (i := 2) rfl; clear bb)
          | (intro hno; clear hno)))
      have hn4 : (nt : Int) ≤ 64 := h2.2
      have HH := hid_mk (And.intro h1 h2)
      have HLo := hid_mk ((Lo.of_out ((Out.refl 0 0 w).alloc (.cells #[.int .i64 x, .slice ta nt tc, .slice fa nf fc] 25))).trans (HS.out.lo (HW0.out.alloc _)))
      have HT1 := hid_mk (HT.out.kept HLo.out hB)
      clear k0 k1 k2 h1 h2
      have HSA := hid_mk (HS0.out.trans HS.out)
      have HSB := hid_mk HS.out
      have HWL := hid_mk HW.out
      obtain ⟨F2, hF2⟩ : ∃ F2, [] ++ [104, 116, 104, 1] ++ numB x.toNat ++ numB (nt : Int).toNat = F2 := ⟨_, rfl⟩
      have HF2 := hid_mk hF2
      rw [hF2] at HWL
      clear hF2
      have HI : Hid (∀ i v, (#[Value.int .i64 x, .slice ta nt tc, .slice fa nf fc] : Array Value)[i]? = some v → ∀ o' wr, St p o2 w2 o' wr → wr.cell? ⟨w.heap.size, i, none⟩ = some v) := hid_mk fun i v hv o' wr hq => ((HSB.out.trans hq).bl HB.out hgp.out hog.out).cell hv
      go_loopw [24] (fun i wr => ∃ k : Nat, i = .int .i64 k ∧ k ≤ nt ∧ (∀ e ∈ ts.take k, okT e) ∧ ∃ o', WR wr p o' (F2 ++ (ts.take k).flatMap encT) ∧ St p o2 w2 o' wr) (fun i _ => nt - (intOf i).toNat)
      case atStart => exact ⟨0, rfl, Nat.zero_le _, by simp, o2, by simpa using HWL.out, St.refl _ _ _⟩
      case round =>
        obtain ⟨k, rfl, hkn, hok, o5, hW5, hS5⟩ := hrel
        have HK := hid_mk hok
        have HW5 := hid_mk hW5
        have HS5 := hid_mk hS5
        clear hok hW5 hS5
        by_cases hgo : k < nt
        · have g1 : (k : Int) < (nt : Int) := by omega
          obtain ⟨t, hx⟩ : ∃ e, ts[k]? = some e := ⟨_, List.getElem?_eq_getElem (by have := HN.out; omega)⟩
          have HX := hid_mk hx
          rcases HT1.out with h0 | ⟨g, off, rfl, hg, hc⟩
          · rw [h0] at hx; cases hx
          obtain ⟨pj, cj, c0, hby⟩ := hc k _ hx
          have HO5 := hid_mk (HS5.out.lo HWL.out)
          have d0 := HO5.out.cell c0 (Nat.lt_of_lt_of_le hg hB)
          have HBy := hid_mk (hby.kept HO5.out hB)
          obtain ⟨m, hm⟩ : ∃ m, t.length = m := ⟨_, rfl⟩
          rw [hm] at d0
          have HMt := hid_mk hm
          clear hx hc c0 hby hm
          by_cases h4 : 0 ≤ (m : Int) ∧ (m : Int) ≤ 4096
          · go_wp2_with (first
              | (go_at_call 62; refine number_any HW5.out _ _ _ (by decide) ?_ ?_ <;> first
                | (intro hno; exact absurd (by assumption) hno)
                | (intro hok w6 o6 hW6 hS6; have HW6 := hid_mk hW6; have HS6 := hid_mk hS6; clear hW6 hS6 hok))
              | (go_at_call 61; refine (put_any HW6.out (HBy.out.kept (HS6.out.lo HW5.out) hB).bytes HMt.out (by omega)).mono ?_; rintro e w7 ⟨rfl, o7, hW7, hS7⟩; have HW7 := hid_mk hW7; have HS7 := hid_mk hS7; clear hW7 hS7))
            go_roundw
            case rel => exact ⟨k + 1, by go_num, by omega, okt_up HX.out HK.out (by unfold okT; rw [HMt.out]; omega), o7, by rw [ft_up HX.out, ← List.append_assoc, ← List.append_assoc, HMt.out]; exact HW7.out, (HS5.out.trans HS6.out).trans HS7.out⟩
            case measure => simp [intOf]; omega
          · go_wp2_with (go_at_call 62; refine number_any HW5.out _ _ _ (by decide) ?_ ?_ <;> first
                | (intro hok; exact absurd hok (by assumption))
                | (intro hno; clear hno))
            exact ⟨rfl, o5, HSA.out.trans HS5.out, .inr ⟨rfl, fun q => h4 (by have := q.2.2.1 _ (List.mem_of_getElem? HX.out); have := HMt.out; unfold okT at *; omega)⟩⟩
        · have hkn' : k = nt := by omega
          subst hkn'
          have g1 : ¬ ((k : Int) < (k : Int)) := by omega
          have hT : Hid (ts.take k = ts) := hid_mk (take_all HN.out)
          rw [hT.out] at HK HW5
          have y2 := HI.out 2 _ rfl o5 wr HS5.out
          by_cases h5 : 1 ≤ (nf : Int) ∧ (nf : Int) ≤ 64
          · go_wp2_with (go_at_call 62; refine number_any HW5.out _ _ _ (by decide) ?_ ?_ <;> first
                | (intro hno; exact absurd (by assumption) hno)
                | (intro hok w6 o6 hW6 hS6; have HW6 := hid_mk hW6; have HS6 := hid_mk hS6; clear hW6 hS6 hok; have y3 := HI.out 2 _ rfl o6 w6 (HS5.out.trans HS6.out)))
            have HF1 := hid_mk (HF.out.kept (HLo.out.trans ((HS5.out.trans HS6.out).lo HWL.out)) hB)
            have hn5 : (nf : Int) ≤ 64 := h5.2
            have HH5 := hid_mk h5
            clear y2 y3 h5
            have HSC := hid_mk ((HSA.out.trans HS5.out).trans HS6.out)
            obtain ⟨F3, hF3⟩ : ∃ F3, F2 ++ ts.flatMap encT ++ numB (nf : Int).toNat = F3 := ⟨_, rfl⟩
            have HF3 := hid_mk hF3
            rw [hF3] at HW6
            clear hF3
            go_loopw [44] (fun i wr => ∃ k : Nat, i = .int .i64 k ∧ k ≤ nf ∧ (∀ e ∈ fs.take k, okF e) ∧ ∃ o', WR wr p o' (F3 ++ (fs.take k).flatMap encF) ∧ St p o6 w6 o' wr) (fun i _ => nf - (intOf i).toNat)
            case atStart => exact ⟨0, rfl, Nat.zero_le _, by simp, o6, by simpa using HW6.out, St.refl _ _ _⟩
            case round =>
              obtain ⟨j, rfl, hjn, hok, o8, hW8, hS8⟩ := hrel
              have HK8 := hid_mk hok
              have HW8 := hid_mk hW8
              have HS8 := hid_mk hS8
              clear hok hW8 hS8
              by_cases hgo2 : j < nf
              · have g2 : (j : Int) < (nf : Int) := by omega
                obtain ⟨⟨fx, fy, fz, fl⟩, hx⟩ : ∃ e, fs[j]? = some e := ⟨_, List.getElem?_eq_getElem (by have := HNf.out; omega)⟩
                have HX := hid_mk hx
                rcases HF1.out with h0 | ⟨g, off, rfl, hg, hc⟩
                · rw [h0] at hx; cases hx
                obtain ⟨pj, cj, c0, c1, c2, c3, hby⟩ := hc j _ hx
                have HO8 := hid_mk (HS8.out.lo HW6.out)
                have d0 := HO8.out.cell c0 (Nat.lt_of_lt_of_le hg hB)
                have d1 := HO8.out.cell c1 (Nat.lt_of_lt_of_le hg hB)
                have d2 := HO8.out.cell c2 (Nat.lt_of_lt_of_le hg hB)
                have d3 := HO8.out.cell c3 (Nat.lt_of_lt_of_le hg hB)
                have HBy := hid_mk (hby.kept HO8.out hB)
                obtain ⟨m, hm⟩ : ∃ m, fl.length = m := ⟨_, rfl⟩
                dsimp only at d0 d1 d2 d3
                rw [hm] at d3
                have HMt := hid_mk hm
                have HMI := hid_mk (HM.out _ (List.mem_of_getElem? hx))
                clear hx hc c0 c1 c2 c3 hby hm
                go_wp2_with fail
                refine (function_any (HW8.out.alloc _) hB fx fy fz fl pj m cj HMt.out (HBy.out.kept (Lo.of_out ((Out.refl 0 0 wr).alloc _)) (Nat.le_refl _)) HMI.out).mono ?_
                rintro e w9 ⟨o9, hS9, ⟨rfl, hI, hW9⟩ | ⟨rfl, hI⟩⟩
                · have HI9 := hid_mk hI
                  have HW9 := hid_mk hW9
                  have HS9 := hid_mk hS9
                  clear hI hW9 hS9
                  go_wp2
                  go_roundw
                  case rel => exact ⟨j + 1, by go_num, by omega, okf_up HX.out HK8.out HI9.out, o9, by rw [ff_up HX.out, ← List.append_assoc]; exact HW9.out, (HS8.out.alloc _).trans HS9.out⟩
                  case measure => simp [intOf]; omega
                · exact ⟨rfl, o9, (HSC.out.trans (HS8.out.alloc _)).trans hS9, .inr ⟨rfl, fun q => hI (q.2.2.2.2 _ (List.mem_of_getElem? HX.out))⟩⟩
              · have hkn' : j = nf := by omega
                subst hkn'
                have g2 : ¬ ((j : Int) < (j : Int)) := by omega
                go_wp2
                have hU : fs.take j = fs := take_all HNf.out
                refine bodyPost_end (results_none Tryd.results39 _ _ _) rfl ⟨o8, HSC.out.trans HS8.out, .inl ⟨rfl, ?_, ?_⟩⟩
                · have hk := HK8.out
                  rw [hU] at hk
                  exact ⟨HH.out.1, by have := HH.out.2; have := HN.out; dsimp only; omega, HK.out, by have := HH5.out; have := HNf.out; dsimp only; omega, hk⟩
                · have := HW8.out
                  rw [hU, ← HF3.out, ← HF2.out] at this
                  unfold encP
                  dsimp only
                  rw [HN.out, HNf.out]
                  simpa [List.append_assoc] using this
          · go_wp2_with (go_at_call 62; refine number_any HW5.out _ _ _ (by decide) ?_ ?_ <;> first
                | (intro hok; exact absurd hok (by assumption))
                | (intro hno; clear hno))
            exact ⟨rfl, o5, HSA.out.trans HS5.out, .inr ⟨rfl, fun q => h5 (by have := q.2.2.2.1; have := HNf.out; dsimp only at *; omega)⟩⟩
    · go_enter Tryd.func39, Tryd.ntmps39
      go_wp2_with (first
        | (go_at_call 61; refine (put_four HW.out (size_alloc _ _)).mono ?_; rintro e w2 ⟨rfl, o2, hW2, hS2⟩; have HS := hid_mk (HS.out.trans hS2); have HW := hid_mk hW2; clear hW2 hS2; have bb := HS.out.bl HB.out hgp.out hog.out; have k0 := bb.cell (i := 0) rfl; have k1 := bb.cell (i := 1) rfl; have k2 := bb.cell (i := 2) rfl; clear bb)
        | (go_at_call 62; refine number_any HW.out _ _ _ (by decide) ?_ ?_ <;> first
          | (intro hno; exact absurd (by assumption) hno)
          | (intro hok; exact absurd hok (by assumption))
          | (intro hok w2 o2 hW2 hS2; have HS := hid_mk (HS.out.trans hS2); have HW := hid_mk hW2; clear hW2 hS2 hok; have bb := HS.out.bl HB.out hgp.out hog.out; have k0 := bb.cell (i := 0) rfl; have k1 := bb.cell (i := 1) rfl; have k2 := bb.cell (i := 2) rfl; clear bb)
          | (intro hno; clear hno)))
      exact ⟨rfl, _, HS0.out.trans HS.out, .inr ⟨rfl, fun q => h2 (by have := q.2.1; have := HN.out; dsimp only at *; omega)⟩⟩
  · go_enter Tryd.func39, Tryd.ntmps39
    go_wp2_with (first
        | (go_at_call 61; refine (put_four HW.out (size_alloc _ _)).mono ?_; rintro e w2 ⟨rfl, o2, hW2, hS2⟩; have HS := hid_mk (HS.out.trans hS2); have HW := hid_mk hW2; clear hW2 hS2; have bb := HS.out.bl HB.out hgp.out hog.out; have k0 := bb.cell (i := 0) rfl; have k1 := bb.cell (i := 1) rfl; have k2 := bb.cell (i := 2) rfl; clear bb)
        | (go_at_call 62; refine number_any HW.out _ _ _ (by decide) ?_ ?_ <;> first
          | (intro hno; exact absurd (by assumption) hno)
          | (intro hok; exact absurd hok (by assumption))
          | (intro hok w2 o2 hW2 hS2; have HS := hid_mk (HS.out.trans hS2); have HW := hid_mk hW2; clear hW2 hS2 hok; have bb := HS.out.bl HB.out hgp.out hog.out; have k0 := bb.cell (i := 0) rfl; have k1 := bb.cell (i := 1) rfl; have k2 := bb.cell (i := 2) rfl; clear bb)
          | (intro hno; clear hno)))
    exact ⟨rfl, _, HS0.out.trans HS.out, .inr ⟨rfl, fun q => h1 q.1⟩⟩
end Go.Proofs.YtkghabmgofgclaaDoor
