import Derived.Test.YtcnjlbjpeklgkaaGreatDoorR10
import Derived.Lib.SmallJoins
import Derived.LaidEql
import Derived.Stop.Asserts
import Derived.RowKitTokens
namespace Go.Proofs.YtcnjlbjpeklgkaaGreatDoor
open Go.RowKit
set_option linter.unusedVariables false
set_option linter.unusedSimpArgs false

theorem four_bytes (w : World) : BytesAt (w.alloc (.cells #[.int .u8 104, .int .u8 116, .int .u8 104, .int .u8 1] 5 (4, 5))) (some ⟨w.heap.size, 0, none⟩) [104, 116, 104, 1] :=
  ⟨by intro b hb; simp at hb; omega, .inr ⟨w.heap.size, 0, rfl, fun j c hj => by
    rw [World.cell?_alloc_mark]
    match j, hj with
    | 0, hj => cases hj; rfl
    | 1, hj => cases hj; rfl
    | 2, hj => cases hj; rfl
    | 3, hj => cases hj; rfl
    | j + 4, hj => simp at hj⟩⟩
theorem put_four {w : World} {p H : Nat} {o : Option Nat} {F : List Int} (h : WR w p o F) (hH : w.heap.size = H) :
    Calls Tryz.prog 81 #[.pointer (some ⟨p, 0, none⟩), .slice (some ⟨H, 0, none⟩) 4 4] (w.alloc (.cells #[.int .u8 104, .int .u8 116, .int .u8 104, .int .u8 1] 5 (4, 5))) fun e w' => e = .returned (.tuple #[]) ∧ ∃ o', WR w' p o' (F ++ [104, 116, 104, 1]) ∧ St p o w o' w' := by
  subst hH
  exact (put_any (n := 4) (h.alloc _) (four_bytes w) rfl (by omega)).mono fun e w' ⟨he, o', h2, h3⟩ => ⟨he, o', h2, ((St.refl p o w).alloc _).trans h3⟩
theorem ft_up {l : List (List Int)} {k : Nat} {x : List Int} (h : l[k]? = some x) : (l.take (k + 1)).flatMap encT = (l.take k).flatMap encT ++ (numB x.length ++ x) := by
  rw [List.take_add_one, h]; simp [encT]
theorem okt_up {l : List (List Int)} {k : Nat} {x : List Int} (h : l[k]? = some x) (hk : ∀ e ∈ l.take k, okT e) (hx : okT x) : ∀ e ∈ l.take (k + 1), okT e := by
  intro e he
  rw [List.take_add_one, h] at he
  rcases List.mem_append.1 he with q | q
  · exact hk e q
  · simp at q; subst q; exact hx
theorem ff_up {l : List (Int × Int × Int × List (Int × Int))} {k : Nat} {x : Int × Int × Int × List (Int × Int)} (h : l[k]? = some x) : (l.take (k + 1)).flatMap encF = (l.take k).flatMap encF ++ encF x := by
  rw [List.take_add_one, h]; simp
theorem okf_up {l : List (Int × Int × Int × List (Int × Int))} {k : Nat} {x : Int × Int × Int × List (Int × Int)} (h : l[k]? = some x) (hk : ∀ e ∈ l.take k, okF e) (hx : okF x) : ∀ e ∈ l.take (k + 1), okF e := by
  intro e he
  rw [List.take_add_one, h] at he
  rcases List.mem_append.1 he with q | q
  · exact hk e q
  · simp at q; subst q; exact hx
theorem take_all {α : Type} {l : List α} {k : Nat} (h : l.length = k) : l.take k = l := List.take_of_length_le (by omega)
theorem toNat_le {n : Nat} {m : Int} (h : (n : Int) ≤ m) : (n : Int) ≤ m := h
set_option maxRecDepth 100000 in
set_option maxHeartbeats 2000000 in
theorem program_any {w : World} {p B : Nat} {o : Option Nat} (h : WR w p o []) (hB : B ≤ p) (x : Int) (ts : List (List Int)) (fs : List (Int × Int × Int × List (Int × Int))) (ta fa : Option Addr) (nt tc nf fc : Nat) (hnt : ts.length = nt) (hnf : fs.length = nf) (hts : TxIn w B ta ts) (hfs : FnIn w B fa fs) (hM : ∀ f ∈ fs, MI f.2.2.2) :
    Calls Tryz.prog 51 #[.pointer (some ⟨p, 0, none⟩), .agg #[.int .i64 x, .slice ta nt tc, .slice fa nf fc]] w fun e w' => ∃ o', St p o w o' w' ∧ (e = .returned (.tuple #[]) ∧ okP (x, ts, fs) ∧ WR w' p o' (encP (x, ts, fs)) ∨ e = .panicked [stopP 62 0] ∧ ¬ okP (x, ts, fs)) := by
  have HB := hid_mk (Bl.new w #[.int .i64 x, .slice ta nt tc, .slice fa nf fc] 32)
  have k0 := HB.out.cell (i := 0) rfl
  have k1 := HB.out.cell (i := 1) rfl
  have k2 := HB.out.cell (i := 2) rfl
  have HW := hid_mk (h.alloc (.cells #[.int .i64 x, .slice ta nt tc, .slice fa nf fc] 32))
  have HS := hid_mk (St.refl p o (w.alloc (.cells #[.int .i64 x, .slice ta nt tc, .slice fa nf fc] 32)))
  have HS0 := hid_mk ((St.refl p o w).alloc (.cells #[.int .i64 x, .slice ta nt tc, .slice fa nf fc] 32))
  have hgp : Hid (w.heap.size ≠ p) := hid_mk (by have := h.lt; omega)
  have hog : Hid (o ≠ some w.heap.size) := hid_mk (h.off (Nat.le_refl _))
  have hcv := Go.Joins.run_convert_bytes_const_at (P := Tryz.prog) (w.alloc (.cells #[.int .i64 x, .slice ta nt tc, .slice fa nf fc] 32)) 50 5 #[.int .u8 104, .int .u8 116, .int .u8 104, .int .u8 1] 4 4 (w.heap.size + 1) (size_alloc _ _).symm Tryz.underlying50 Tryz.underlying5
  have HT := hid_mk hts
  have HF := hid_mk hfs
  have HM := hid_mk hM
  have HN := hid_mk hnt
  have HNf := hid_mk hnf
  have HW0 := hid_mk h
  clear h hts hfs hM hnt hnf
  by_cases h1 : 0 ≤ x ∧ x ≤ 64
  · by_cases h2 : 0 ≤ (nt : Int) ∧ (nt : Int) ≤ 64
    · go_enter Tryz.func51, Tryz.ntmps51
      go_wp2_with (first
        | (go_at_call 81; refine (put_four HW.out (size_alloc _ _)).mono ?_; rintro e w2 ⟨rfl, o2, hW2, hS2⟩; have HS := hid_mk (HS.out.trans hS2); have HW := hid_mk hW2; clear hW2 hS2; have bb := HS.out.bl HB.out hgp.out hog.out; have k0 := bb.cell (i := 0) rfl; have k1 := bb.cell (i := 1) rfl; have k2 := bb.cell (i := 2) rfl; clear bb)
        | (go_at_call 82; refine number_any HW.out _ _ _ (by decide) ?_ ?_ <;> first
          | (intro hno; exact absurd (by assumption) hno)
          | (intro hok; exact absurd hok (by assumption))
          | (intro hok w2 o2 hW2 hS2; have HS := hid_mk (HS.out.trans hS2); have HW := hid_mk hW2; clear hW2 hS2 hok; have bb := HS.out.bl HB.out hgp.out hog.out; have k0 := bb.cell (i := 0) rfl; have k1 := bb.cell (i := 1) rfl; have k2 := bb.cell (i := 2) rfl; clear bb)
          | (intro hno; clear hno)))
      have hn4 : (nt : Int) ≤ 64 := h2.2
      have HH := hid_mk (And.intro h1 h2)
      have HLo := hid_mk ((Lo.of_out ((Out.refl 0 0 w).alloc (.cells #[.int .i64 x, .slice ta nt tc, .slice fa nf fc] 32))).trans (HS.out.lo (HW0.out.alloc _)))
      have HT1 := hid_mk (HT.out.kept HLo.out hB)
      clear k0 k1 k2 h1 h2
      have HSA := hid_mk (HS0.out.trans HS.out)
      have HSB := hid_mk HS.out
      have HWL := hid_mk HW.out
      obtain ⟨F2, hF2⟩ : ∃ F2, [] ++ [104, 116, 104, 1] ++ numB x.toNat ++ numB (nt : Int).toNat = F2 := ⟨_, rfl⟩
      have HF2 := hid_mk hF2
      rw [hF2] at HWL
      clear hF2
      have HI : Hid (∀ i v, (#[Value.int .i64 x, .slice ta nt tc, .slice fa nf fc] : Array Value)[i]? = some v → ∀ o' wr, St p o2 w2 o' wr → wr.cell? ⟨w.heap.size, i, none⟩ = some v) := hid_mk fun i v hv o' wr hq => ((HSB.out.trans hq).bl HB.out hgp.out hog.out).cell hv
      go_loopw [24] (fun i wr => ∃ k : Nat, i = .int .i64 k ∧ k ≤ nt ∧ (∀ e ∈ ts.take k, okT e) ∧ ∃ o', WR wr p o' (F2 ++ (ts.take k).flatMap encT) ∧ St p o2 w2 o' wr) (fun i _ => nt - (intOf i).toNat)
      case atStart => exact ⟨0, rfl, Nat.zero_le _, by simp, o2, by simpa using HWL.out, St.refl _ _ _⟩
      case round =>
        obtain ⟨k, rfl, hkn, hok, o5, hW5, hS5⟩ := hrel
        have HK := hid_mk hok
        have HW5 := hid_mk hW5
        have HS5 := hid_mk hS5
        clear hok hW5 hS5
        by_cases hgo : k < nt
        · have g1 : (k : Int) < (nt : Int) := by omega
          obtain ⟨t, hx⟩ : ∃ e, ts[k]? = some e := ⟨_, List.getElem?_eq_getElem (by have := HN.out; omega)⟩
          have HX := hid_mk hx
          rcases HT1.out with h0 | ⟨g, off, rfl, hg, hc⟩
          · rw [h0] at hx; cases hx
          obtain ⟨pj, cj, c0, hby⟩ := hc k _ hx
          have HO5 := hid_mk (HS5.out.lo HWL.out)
          have d0 := HO5.out.cell c0 (Nat.lt_of_lt_of_le hg hB)
          have HBy := hid_mk (hby.kept HO5.out hB)
          obtain ⟨m, hm⟩ : ∃ m, t.length = m := ⟨_, rfl⟩
          rw [hm] at d0
          have HMt := hid_mk hm
          clear hx hc c0 hby hm
          by_cases h4 : 0 ≤ (m : Int) ∧ (m : Int) ≤ 4096
          · go_wp2_with (first
              | (go_at_call 82; refine number_any HW5.out _ _ _ (by decide) ?_ ?_ <;> first
                | (intro hno; exact absurd (by assumption) hno)
                | (intro hok w6 o6 hW6 hS6; have HW6 := hid_mk hW6; have HS6 := hid_mk hS6; clear hW6 hS6 hok))
              | (go_at_call 81; refine (put_any HW6.out (HBy.out.kept (HS6.out.lo HW5.out) hB).bytes HMt.out (by omega)).mono ?_; rintro e w7 ⟨rfl, o7, hW7, hS7⟩; have HW7 := hid_mk hW7; have HS7 := hid_mk hS7; clear hW7 hS7))
            go_roundw
            case rel => exact ⟨k + 1, by go_num, by omega, okt_up HX.out HK.out (by unfold okT; rw [HMt.out]; omega), o7, by rw [ft_up HX.out, ← List.append_assoc, ← List.append_assoc, HMt.out]; exact HW7.out, (HS5.out.trans HS6.out).trans HS7.out⟩
            case measure => simp [intOf]; omega
          · go_wp2_with (go_at_call 82; refine number_any HW5.out _ _ _ (by decide) ?_ ?_ <;> first
                | (intro hok; exact absurd hok (by assumption))
                | (intro hno; clear hno))
            exact ⟨rfl, o5, HSA.out.trans HS5.out, .inr ⟨rfl, fun q => h4 (by have := q.2.2.1 _ (List.mem_of_getElem? HX.out); have := HMt.out; unfold okT at *; omega)⟩⟩
        · have hkn' : k = nt := by omega
          subst hkn'
          have g1 : ¬ ((k : Int) < (k : Int)) := by omega
          have hT : Hid (ts.take k = ts) := hid_mk (take_all HN.out)
          rw [hT.out] at HK HW5
          have y2 := HI.out 2 _ rfl o5 wr HS5.out
          by_cases h5 : 1 ≤ (nf : Int) ∧ (nf : Int) ≤ 64
          · go_wp2_with (go_at_call 82; refine number_any HW5.out _ _ _ (by decide) ?_ ?_ <;> first
                | (intro hno; exact absurd (by assumption) hno)
                | (intro hok w6 o6 hW6 hS6; have HW6 := hid_mk hW6; have HS6 := hid_mk hS6; clear hW6 hS6 hok; have y3 := HI.out 2 _ rfl o6 w6 (HS5.out.trans HS6.out)))
            have HF1 := hid_mk (HF.out.kept (HLo.out.trans ((HS5.out.trans HS6.out).lo HWL.out)) hB)
            have hn5 : (nf : Int) ≤ 64 := h5.2
            have HH5 := hid_mk h5
            clear y2 y3 h5
            have HSC := hid_mk ((HSA.out.trans HS5.out).trans HS6.out)
            obtain ⟨F3, hF3⟩ : ∃ F3, F2 ++ ts.flatMap encT ++ numB (nf : Int).toNat = F3 := ⟨_, rfl⟩
            have HF3 := hid_mk hF3
            rw [hF3] at HW6
            clear hF3
            go_loopw [44] (fun i wr => ∃ k : Nat, i = .int .i64 k ∧ k ≤ nf ∧ (∀ e ∈ fs.take k, okF e) ∧ ∃ o', WR wr p o' (F3 ++ (fs.take k).flatMap encF) ∧ St p o6 w6 o' wr) (fun i _ => nf - (intOf i).toNat)
            case atStart => exact ⟨0, rfl, Nat.zero_le _, by simp, o6, by simpa using HW6.out, St.refl _ _ _⟩
            case round =>
              obtain ⟨j, rfl, hjn, hok, o8, hW8, hS8⟩ := hrel
              have HK8 := hid_mk hok
              have HW8 := hid_mk hW8
              have HS8 := hid_mk hS8
              clear hok hW8 hS8
              by_cases hgo2 : j < nf
              · have g2 : (j : Int) < (nf : Int) := by omega
                obtain ⟨⟨fx, fy, fz, fl⟩, hx⟩ : ∃ e, fs[j]? = some e := ⟨_, List.getElem?_eq_getElem (by have := HNf.out; omega)⟩
                have HX := hid_mk hx
                rcases HF1.out with h0 | ⟨g, off, rfl, hg, hc⟩
                · rw [h0] at hx; cases hx
                obtain ⟨pj, cj, c0, c1, c2, c3, hby⟩ := hc j _ hx
                have HO8 := hid_mk (HS8.out.lo HW6.out)
                have d0 := HO8.out.cell c0 (Nat.lt_of_lt_of_le hg hB)
                have d1 := HO8.out.cell c1 (Nat.lt_of_lt_of_le hg hB)
                have d2 := HO8.out.cell c2 (Nat.lt_of_lt_of_le hg hB)
                have d3 := HO8.out.cell c3 (Nat.lt_of_lt_of_le hg hB)
                have HBy := hid_mk (hby.kept HO8.out hB)
                obtain ⟨m, hm⟩ : ∃ m, fl.length = m := ⟨_, rfl⟩
                dsimp only at d0 d1 d2 d3
                rw [hm] at d3
                have HMt := hid_mk hm
                have HMI := hid_mk (HM.out _ (List.mem_of_getElem? hx))
                clear hx hc c0 c1 c2 c3 hby hm
                go_wp2_with fail
                refine (function_any (HW8.out.alloc _) hB fx fy fz fl pj m cj HMt.out (HBy.out.kept (Lo.of_out ((Out.refl 0 0 wr).alloc _)) (Nat.le_refl _)) HMI.out).mono ?_
                rintro e w9 ⟨o9, hS9, ⟨rfl, hI, hW9⟩ | ⟨rfl, hI⟩⟩
                · have HI9 := hid_mk hI
                  have HW9 := hid_mk hW9
                  have HS9 := hid_mk hS9
                  clear hI hW9 hS9
                  go_wp2
                  go_roundw
                  case rel => exact ⟨j + 1, by go_num, by omega, okf_up HX.out HK8.out HI9.out, o9, by rw [ff_up HX.out, ← List.append_assoc]; exact HW9.out, (HS8.out.alloc _).trans HS9.out⟩
                  case measure => simp [intOf]; omega
                · exact ⟨rfl, o9, (HSC.out.trans (HS8.out.alloc _)).trans hS9, .inr ⟨rfl, fun q => hI (q.2.2.2.2 _ (List.mem_of_getElem? HX.out))⟩⟩
              · have hkn' : j = nf := by omega
                subst hkn'
                have g2 : ¬ ((j : Int) < (j : Int)) := by omega
                go_wp2
                have hU : fs.take j = fs := take_all HNf.out
                refine bodyPost_end (results_none Tryz.results51 _ _ _) rfl ⟨o8, HSC.out.trans HS8.out, .inl ⟨rfl, ?_, ?_⟩⟩
                · have hk := HK8.out
                  rw [hU] at hk
                  exact ⟨HH.out.1, by have := HH.out.2; have := HN.out; dsimp only; omega, HK.out, by have := HH5.out; have := HNf.out; dsimp only; omega, hk⟩
                · have := HW8.out
                  rw [hU, ← HF3.out, ← HF2.out] at this
                  unfold encP
                  dsimp only
                  rw [HN.out, HNf.out]
                  simpa [List.append_assoc] using this
          · go_wp2_with (go_at_call 82; refine number_any HW5.out _ _ _ (by decide) ?_ ?_ <;> first
                | (intro hok; exact absurd hok (by assumption))
                | (intro hno; clear hno))
            exact ⟨rfl, o5, HSA.out.trans HS5.out, .inr ⟨rfl, fun q => h5 (by have := q.2.2.2.1; have := HNf.out; dsimp only at *; omega)⟩⟩
    · go_enter Tryz.func51, Tryz.ntmps51
      go_wp2_with (first
        | (go_at_call 81; refine (put_four HW.out (size_alloc _ _)).mono ?_; rintro e w2 ⟨rfl, o2, hW2, hS2⟩; have HS := hid_mk (HS.out.trans hS2); have HW := hid_mk hW2; clear hW2 hS2; have bb := HS.out.bl HB.out hgp.out hog.out; have k0 := bb.cell (i := 0) rfl; have k1 := bb.cell (i := 1) rfl; have k2 := bb.cell (i := 2) rfl; clear bb)
        | (go_at_call 82; refine number_any HW.out _ _ _ (by decide) ?_ ?_ <;> first
          | (intro hno; exact absurd (by assumption) hno)
          | (intro hok; exact absurd hok (by assumption))
          | (intro hok w2 o2 hW2 hS2; have HS := hid_mk (HS.out.trans hS2); have HW := hid_mk hW2; clear hW2 hS2 hok; have bb := HS.out.bl HB.out hgp.out hog.out; have k0 := bb.cell (i := 0) rfl; have k1 := bb.cell (i := 1) rfl; have k2 := bb.cell (i := 2) rfl; clear bb)
          | (intro hno; clear hno)))
      exact ⟨rfl, _, HS0.out.trans HS.out, .inr ⟨rfl, fun q => h2 (by have := q.2.1; have := HN.out; dsimp only at *; omega)⟩⟩
  · go_enter Tryz.func51, Tryz.ntmps51
    go_wp2_with (first
        | (go_at_call 81; refine (put_four HW.out (size_alloc _ _)).mono ?_; rintro e w2 ⟨rfl, o2, hW2, hS2⟩; have HS := hid_mk (HS.out.trans hS2); have HW := hid_mk hW2; clear hW2 hS2; have bb := HS.out.bl HB.out hgp.out hog.out; have k0 := bb.cell (i := 0) rfl; have k1 := bb.cell (i := 1) rfl; have k2 := bb.cell (i := 2) rfl; clear bb)
        | (go_at_call 82; refine number_any HW.out _ _ _ (by decide) ?_ ?_ <;> first
          | (intro hno; exact absurd (by assumption) hno)
          | (intro hok; exact absurd hok (by assumption))
          | (intro hok w2 o2 hW2 hS2; have HS := hid_mk (HS.out.trans hS2); have HW := hid_mk hW2; clear hW2 hS2 hok; have bb := HS.out.bl HB.out hgp.out hog.out; have k0 := bb.cell (i := 0) rfl; have k1 := bb.cell (i := 1) rfl; have k2 := bb.cell (i := 2) rfl; clear bb)
          | (intro hno; clear hno)))
    exact ⟨rfl, _, HS0.out.trans HS.out, .inr ⟨rfl, fun q => h1 q.1⟩⟩
end Go.Proofs.YtcnjlbjpeklgkaaGreatDoor
namespace Go.Proofs.YtcnjlbjpeklgkaaGreatDoor
open Go.RowKit Go.Extern.Stop Go.Stop Go.Extern
set_option linter.unusedVariables false
set_option linter.unusedSimpArgs false

theorem r_valueOfP (t : Addr) (w : World) : (ReflectliteValue.unpack (.iface 140 (.pointer (some t)))).run Tryz.prog w
    = .ok (.agg #[.pointer (some ⟨9, 140, none⟩), .pointer (some ⟨w.heap.size, 0, none⟩), .int .u64 150]) (w.alloc (.cells #[.pointer (some t)] 140)) := by kernel_rfl
theorem r_typeP (a : Addr) (w : World) : (ReflectliteValue.methodAny (ReflectliteValue.valueError "reflectlite.Value.Type" 0) (fun t _ _ _ => ReflectliteType.toType t) #[.agg #[.pointer (some ⟨9, 140, none⟩), .pointer (some a), .int .u64 150]]).run Tryz.prog w
    = .ok (.iface 187 (.agg #[.pointer (some ⟨9, 140, none⟩)])) w := by kernel_rfl
theorem r_kindP (w : World) : ((ReflectliteType.abiMethod fun t => (fun a : Nat => Value.int IntKind.u8 (a : Int)) <$> Rtype.kind t) #[.pointer (some ⟨9, 140, none⟩)]).run Tryz.prog w = .ok (.int .u8 22) w := by kernel_rfl
theorem r_kindW (w : World) : ((ReflectliteType.abiMethod fun t => (fun a : Nat => Value.int IntKind.u8 (a : Int)) <$> Rtype.kind t) #[.pointer (some ⟨9, 138, none⟩)]).run Tryz.prog w = .ok (.int .u8 25) w := by kernel_rfl
theorem m_one {v : Value} {h1 : Value → Sem Value} {h2 : Array Value → Sem Value} : ReflectliteValue.method.match_2 (fun _ => Sem Value) #[v] h1 h2 = h1 v := rfl
theorem m_two {v x : Value} {h1 : Value → Value → Sem Value} {h2 : Array Value → Sem Value} : ReflectliteValue.set.match_3 (fun _ => Sem Value) #[v, x] h1 h2 = h1 v x := rfl
theorem r_partsP (a : Addr) (w : World) : (ReflectliteValue.parts (.agg #[.pointer (some ⟨9, 140, none⟩), .pointer (some a), .int .u64 150])).run Tryz.prog w = .ok (some (140, a, 150)) w := by kernel_rfl
theorem r_isNilP (a p : Addr) (W : World) (ha : W.cell? a = some (.pointer (some p))) :
    (ReflectliteValue.method (ReflectliteValue.valueError "reflectlite.Value.IsNil" 0) ReflectliteValue.isNil #[.agg #[.pointer (some ⟨9, 140, none⟩), .pointer (some a), .int .u64 150]]).run Tryz.prog W = .ok (.bool false) W := by
  delta ReflectliteValue.method
  rw [m_one]
  simp only [Sem.run_bind, r_partsP, Result.andThen]
  simp [ReflectliteValue.isNil, loadVar, isAgg, underlying, Tryz.underlying140, ha, Result.andThen]
theorem r_elemT (w : World) : (ReflectliteType.method ReflectliteType.elem #[.agg #[.pointer (some ⟨9, 140, none⟩)]]).run Tryz.prog w = .ok (.iface 187 (.agg #[.pointer (some ⟨9, 138, none⟩)])) w := by kernel_rfl
theorem r_implW (w : World) : (ReflectliteType.relation "Implements" ReflectliteType.implements_ #[.agg #[.pointer (some ⟨9, 138, none⟩)], .iface 187 (.agg #[.pointer (some ⟨9, 135, none⟩)])]).run Tryz.prog w = .ok (.bool true) w := by kernel_rfl
theorem r_typeOfW (v : Value) (w : World) : (ReflectliteType.typeOf #[.iface 138 v]).run Tryz.prog w = .ok (.iface 187 (.agg #[.pointer (some ⟨9, 138, none⟩)])) w := by kernel_rfl
theorem r_asgW (w : World) : (ReflectliteType.relation "AssignableTo" ReflectliteType.assignableTo #[.agg #[.pointer (some ⟨9, 138, none⟩)], .iface 187 (.agg #[.pointer (some ⟨9, 138, none⟩)])]).run Tryz.prog w = .ok (.bool true) w := by kernel_rfl
theorem r_valueOfW (e a : Int) (w : World) : (ReflectliteValue.unpack (.iface 138 (.agg #[.int .i64 e, .int .i64 a]))).run Tryz.prog w
    = .ok (.agg #[.pointer (some ⟨9, 138, none⟩), .pointer (some ⟨w.heap.size, 0, none⟩), .int .u64 153]) (w.alloc (.cells #[.int .i64 e, .int .i64 a] 138)) := by kernel_rfl
theorem r_elemOfP (w : World) : (Rtype.elem? 140).run Tryz.prog w = .ok (some 138) w := by kernel_rfl
theorem r_mkW (p : Addr) (w : World) : (ReflectliteValue.mk 138 p ReflectliteValue.flagAddr).run Tryz.prog w = .ok (.agg #[.pointer (some ⟨9, 138, none⟩), .pointer (some p), .int .u64 409]) w := by kernel_rfl
theorem r_elemVP (a p : Addr) (W : World) (ha : W.cell? a = some (.pointer (some p))) :
    (ReflectliteValue.method (ReflectliteValue.valueError "reflectlite.Value.Elem" 0) ReflectliteValue.elem #[.agg #[.pointer (some ⟨9, 140, none⟩), .pointer (some a), .int .u64 150]]).run Tryz.prog W
      = .ok (.agg #[.pointer (some ⟨9, 138, none⟩), .pointer (some p), .int .u64 409]) W := by
  delta ReflectliteValue.method
  rw [m_one]
  simp only [Sem.run_bind, r_partsP, Result.andThen]
  simp [ReflectliteValue.elem, loadVar, isAgg, underlying, Tryz.underlying140, ha, Result.andThen, r_elemOfP, r_mkW]
theorem r_partsWa (a : Addr) (w : World) : (ReflectliteValue.parts (.agg #[.pointer (some ⟨9, 138, none⟩), .pointer (some a), .int .u64 409])).run Tryz.prog w = .ok (some (138, a, 409)) w := by kernel_rfl
theorem r_partsW (a : Addr) (w : World) : (ReflectliteValue.parts (.agg #[.pointer (some ⟨9, 138, none⟩), .pointer (some a), .int .u64 153])).run Tryz.prog w = .ok (some (138, a, 153)) w := by kernel_rfl
theorem r_directW (w : World) : (Rtype.directlyAssignable 138 138).run Tryz.prog w = .ok true w := by kernel_rfl
theorem infoW (x y : Int) : (Tryz.prog.info? 138).map (·.size) = some (#[Value.int .i64 x, Value.int .i64 y] : Array Value).size := by kernel_rfl
theorem r_setW (t b : Nat) (e a x y : Int) (W : World) (hb : Bl W b #[.int .i64 e, .int .i64 a] 138) (ht : Bl W t #[.int .i64 x, .int .i64 y] 138) :
    (ReflectliteValue.set #[.agg #[.pointer (some ⟨9, 138, none⟩), .pointer (some ⟨t, 0, none⟩), .int .u64 409], .agg #[.pointer (some ⟨9, 138, none⟩), .pointer (some ⟨b, 0, none⟩), .int .u64 153]]).run Tryz.prog W
      = .ok (.tuple #[]) ((W.setCell ⟨t, 0, none⟩ (.int .i64 e)).setCell ⟨t, 1, none⟩ (.int .i64 a)) := by
  have hL : (loadVar 138 ⟨b, 0, none⟩).run Tryz.prog W = .ok (.agg #[.int .i64 e, .int .i64 a]) W :=
    run_loadVar_row W b 138 138 _ (0, 0) _ hb Tryz.underlying138 rfl (infoW e a)
  have t0 := ht.cell (i := 0) rfl
  have z0 := ht.frozen 0
  have t1 := (ht.set 0 (.int .i64 e)).cell (i := 1) (v := .int .i64 y) rfl
  have z1 := (ht.set 0 (.int .i64 e)).frozen 1
  delta ReflectliteValue.set
  rw [m_two]
  simp only [Sem.run_bind, r_partsWa, r_partsW, Result.andThen]
  simp [ReflectliteValue.flagAddr, hL, Result.andThen, r_directW, storeVar, Value.cells, storeCells, Addr.add]
  rw [run_store Tryz.prog W ⟨t, 0, none⟩ _ _ (by rfl)]
  simp [t0, z0]
  rw [run_store Tryz.prog _ ⟨t, 1, none⟩ _ _ (by rfl)]
  simp [t1, z1]
end Go.Proofs.YtcnjlbjpeklgkaaGreatDoor
namespace Go.Proofs.YtcnjlbjpeklgkaaGreatDoor
open Go.RowKit Go.Extern.Stop Go.Stop Go.Extern
set_option linter.unusedVariables false
set_option linter.unusedSimpArgs false

theorem q_kind (h : Value) (w : World) : (Go.method 360 187 (.agg #[h]) "Kind").run Tryz.prog w = .ok (189, h) w := by kernel_rfl
theorem q_elem (h : Value) (w : World) : (Go.method 360 187 (.agg #[h]) "Elem").run Tryz.prog w = .ok (201, .agg #[h]) w := by kernel_rfl
theorem q_impl (h : Value) (w : World) : (Go.method 360 187 (.agg #[h]) "Implements").run Tryz.prog w = .ok (202, .agg #[h]) w := by kernel_rfl
theorem q_asg (h : Value) (w : World) : (Go.method 360 187 (.agg #[h]) "AssignableTo").run Tryz.prog w = .ok (199, .agg #[h]) w := by kernel_rfl
set_option maxRecDepth 100000 in
set_option maxHeartbeats 1000000 in
theorem as_hit {w : World} {t : Nat} {x y : Int} (e a : Int) (va : Nat) (hv : Bl w va #[.pointer (some ⟨t, 0, none⟩)] 140) (ht : Bl w t #[.int .i64 x, .int .i64 y] 138) :
    Calls Tryz.prog 114 #[.iface 138 (.agg #[.int .i64 e, .int .i64 a]), .iface 140 (.pointer (some ⟨t, 0, none⟩)), .agg #[.pointer (some ⟨9, 140, none⟩), .pointer (some ⟨va, 0, none⟩), .int .u64 150], .iface 187 (.agg #[.pointer (some ⟨9, 138, none⟩)])] w
      fun ev w' => ev = .returned (.bool true) ∧ Bl w' t #[.int .i64 e, .int .i64 a] 138 ∧ Out t (t + 1) w w' := by
  have h62 := @run_callFunc_extern Tryz.prog 130 _ ReflectliteType.typeOf Tryz.func130 (by kernel_rfl) (by kernel_rfl) (by kernel_rfl) (by kernel_rfl)
  have h95 := @run_callFunc_extern Tryz.prog 199 _ (ReflectliteType.relation "AssignableTo" ReflectliteType.assignableTo) Tryz.func199 (by kernel_rfl) (by kernel_rfl) (by kernel_rfl) (by kernel_rfl)
  have h63 := @run_callFunc_extern Tryz.prog 131 _ (ReflectliteValue.method (ReflectliteValue.valueError "reflectlite.Value.Elem" 0) ReflectliteValue.elem) Tryz.func131 (by kernel_rfl) (by kernel_rfl) (by kernel_rfl) (by kernel_rfl)
  have h51 := @run_callFunc_extern Tryz.prog 111 _ (fun args => ReflectliteValue.unpack (args.getD 0 (.tuple #[]))) Tryz.func111 (by kernel_rfl) (by kernel_rfl) (by kernel_rfl) (by kernel_rfl)
  have h64 := @run_callFunc_extern Tryz.prog 132 _ ReflectliteValue.set Tryz.func132 (by kernel_rfl) (by kernel_rfl) (by kernel_rfl) (by kernel_rfl)
  have tO := r_typeOfW
  have mA := q_asg
  have aW := r_asgW
  have vW := r_valueOfW e a
  have hn := Bl.new w #[.pointer (some ⟨9, 140, none⟩), .pointer (some ⟨va, 0, none⟩), .int .u64 150] 167
  have hv1 := hv.alloc (.cells #[.pointer (some ⟨9, 140, none⟩), .pointer (some ⟨va, 0, none⟩), .int .u64 150] 167)
  have el := r_elemVP ⟨va, 0, none⟩ ⟨t, 0, none⟩ _ (hv1.cell (i := 0) rfl)
  have ht1 := ht.alloc (.cells #[.pointer (some ⟨9, 140, none⟩), .pointer (some ⟨va, 0, none⟩), .int .u64 150] 167)
  have ht2 := ht1.alloc (.cells #[.int .i64 e, .int .i64 a] 138)
  have hb2 := Bl.new (w.alloc (.cells #[.pointer (some ⟨9, 140, none⟩), .pointer (some ⟨va, 0, none⟩), .int .u64 150] 167)) #[.int .i64 e, .int .i64 a] 138
  rw [size_alloc] at hb2
  have st := r_setW t (w.heap.size + 1) e a x y _ hb2 ht2
  have HB := hid_mk ((ht2.set 0 (.int .i64 e)).set 1 (.int .i64 a))
  have HO := hid_mk (((((Out.refl t (t + 1) w).alloc (.cells #[.pointer (some ⟨9, 140, none⟩), .pointer (some ⟨va, 0, none⟩), .int .u64 150] 167)).alloc (.cells #[.int .i64 e, .int .i64 a] 138)).setCell (p := ⟨t, 0, none⟩) (.inl ⟨Nat.le_refl _, Nat.lt_succ_self _⟩) (.int .i64 e)).setCell (p := ⟨t, 1, none⟩) (.inl ⟨Nat.le_refl _, Nat.lt_succ_self _⟩) (.int .i64 a))
  clear hn hv1 ht1 ht2 hb2
  go_enter Tryz.func114, Tryz.ntmps114
  go_wp2
  refine wp_loop_rounds 1 ?_
  rw [rounds_succ]
  go_wp2
  go_ret
  exact ⟨rfl, HB.out, HO.out⟩
/-- the listed variable -/
def Ty (w : World) : Prop := w.cell? ⟨1, 0, none⟩ = some (.iface 187 (.agg #[.pointer (some ⟨9, 135, none⟩)]))
theorem Ty.lo {w w' : World} {B : Nat} (h : Ty w) (o : Lo B w w') (hB : 9 ≤ B) : Ty w' := o.cell h (by omega)
theorem Ty.out {w w' : World} {lo hi : Nat} (h : Ty w) (o : Out lo hi w w') (hB : 9 ≤ lo ∨ hi = 0) : Ty w' := o.cell h (by omega)
theorem Ty.lt {w : World} (h : Ty w) : 0 < w.heap.size := Nat.lt_of_le_of_lt (Nat.zero_le _) (cell_lt h)
set_option maxRecDepth 100000 in
set_option maxHeartbeats 1000000 in
theorem As_hit {w : World} {t : Nat} {x y : Int} (e a : Int) (hT : Ty w) (ht : Bl w t #[.int .i64 x, .int .i64 y] 138) :
    Calls Tryz.prog 80 #[.iface 138 (.agg #[.int .i64 e, .int .i64 a]), .iface 140 (.pointer (some ⟨t, 0, none⟩))] w
      fun ev w' => ev = .returned (.bool true) ∧ Bl w' t #[.int .i64 e, .int .i64 a] 138 ∧ Out t (t + 1) w w' := by
  have h51 := @run_callFunc_extern Tryz.prog 111 _ (fun args => ReflectliteValue.unpack (args.getD 0 (.tuple #[]))) Tryz.func111 (by kernel_rfl) (by kernel_rfl) (by kernel_rfl) (by kernel_rfl)
  have h52 := @run_callFunc_extern Tryz.prog 112 _ (ReflectliteValue.methodAny (ReflectliteValue.valueError "reflectlite.Value.Type" 0) (fun t _ _ _ => ReflectliteType.toType t)) Tryz.func112 (by kernel_rfl) (by kernel_rfl) (by kernel_rfl) (by kernel_rfl)
  have h53 := @run_callFunc_extern Tryz.prog 113 _ (ReflectliteValue.method (ReflectliteValue.valueError "reflectlite.Value.IsNil" 0) ReflectliteValue.isNil) Tryz.func113 (by kernel_rfl) (by kernel_rfl) (by kernel_rfl) (by kernel_rfl)
  have h86 := @run_callFunc_extern Tryz.prog 189 _ (ReflectliteType.abiMethod fun t => do pure (.int .u8 (← Rtype.kind t))) Tryz.func189 (by kernel_rfl) (by kernel_rfl) (by kernel_rfl) (by kernel_rfl)
  have h97 := @run_callFunc_extern Tryz.prog 201 _ (ReflectliteType.method ReflectliteType.elem) Tryz.func201 (by kernel_rfl) (by kernel_rfl) (by kernel_rfl) (by kernel_rfl)
  have h98 := @run_callFunc_extern Tryz.prog 202 _ (ReflectliteType.relation "Implements" ReflectliteType.implements_) Tryz.func202 (by kernel_rfl) (by kernel_rfl) (by kernel_rfl) (by kernel_rfl)
  have f6 := r_valueOfP ⟨t, 0, none⟩
  have f7 := r_typeP
  have mK := q_kind
  have mE := q_elem
  have mI := q_impl
  have kP := r_kindP
  have kW := r_kindW
  have eP := r_elemT
  have iW := r_implW
  have n0 := Bl.new w #[.pointer (some ⟨t, 0, none⟩)] 140
  have n1 := n0.alloc (.cells #[.pointer (some ⟨9, 140, none⟩), .pointer (some ⟨w.heap.size, 0, none⟩), .int .u64 150] 167)
  have nI := r_isNilP ⟨w.heap.size, 0, none⟩ ⟨t, 0, none⟩ _ (n1.cell (i := 0) rfl)
  have hO : Out 0 0 w ((w.alloc (.cells #[.pointer (some ⟨t, 0, none⟩)] 140)).alloc (.cells #[.pointer (some ⟨9, 140, none⟩), .pointer (some ⟨w.heap.size, 0, none⟩), .int .u64 150] 167)) := ((Out.refl 0 0 w).alloc _).alloc _
  have hg : _ = _ := hT.out hO (.inr rfl)
  have HA := hid_mk (as_hit e a w.heap.size n1 (ht.kept hO (.inr (Nat.zero_le _))))
  have HO := hid_mk hO
  clear n0 n1 hO hT ht
  go_enter Tryz.func80, Tryz.ntmps80
  go_wp2_with (go_at_call 114; refine HA.out.mono ?_; rintro ev w2 ⟨rfl, hb2, ho2⟩)
  go_ret
  exact ⟨rfl, hb2, (HO.out.any _ _).trans ho2⟩
end Go.Proofs.YtcnjlbjpeklgkaaGreatDoor
namespace Go.Proofs.YtcnjlbjpeklgkaaGreatDoor
open Go.RowKit
set_option linter.unusedVariables false
set_option linter.unusedSimpArgs false

theorem caught_nil (w : World) : Calls Tryz.prog 50 #[.nilIface] w fun x w' => x = .returned (.tuple #[.int .i64 0, .int .i64 0]) ∧ w' = w := by
  go_enter Tryz.func50, Tryz.ntmps50
  go_wp2
  go_ret2
  exact ⟨rfl, rfl⟩
set_option maxRecDepth 100000 in
set_option maxHeartbeats 1000000 in
theorem caught_stop (e a : Int) (w : World) (hT : Ty w) : Calls Tryz.prog 50 #[.iface 138 (.agg #[.int .i64 e, .int .i64 a])] w fun x w' => x = .returned (.tuple #[.int .i64 a, .int .i64 e]) ∧ Out 0 0 w w' := by
  have h1 : ∀ W, (binOp .eql 20 (.iface 138 (.agg #[.int .i64 e, .int .i64 a])) .nilIface).run Tryz.prog W = .ok (.bool false) W := fun W => by kernel_rfl
  have h2 : ∀ W, (Instr.typeAssert (.iface 138 (.agg #[.int .i64 e, .int .i64 a])) 20 135 true).run Tryz.prog W = .ok (.tuple #[.iface 138 (.agg #[.int .i64 e, .int .i64 a]), .bool true]) W := fun W => by kernel_rfl
  have HA := hid_mk (As_hit e a (hT.out ((Out.refl 0 0 w).alloc (.cells #[.int .i64 0, .int .i64 0] 138)) (.inr rfl)) (Bl.new w #[.int .i64 0, .int .i64 0] 138))
  clear hT
  go_enter Tryz.func50, Tryz.ntmps50
  go_wp2_with (go_at_call 80; refine HA.out.mono ?_; rintro ev w2 ⟨rfl, hb2, ho2⟩; have d0 := hb2.cell (i := 0) rfl; have d1 := hb2.cell (i := 1) rfl; have HO2 := hid_mk ho2; clear ho2 hb2)
  go_region
  go_wp2
  go_ret2
  exact ⟨rfl, (((Out.refl 0 0 w).alloc _).past HO2.out (Nat.le_refl _)).drew⟩
theorem setE {w : World} {g : Nat} {x : Int} (hg : Bl w g #[.int .i64 x] 41) (y : Int) : Bl (w.setCell ⟨g, 0, none⟩ (.int .i64 y)) g #[.int .i64 y] 41 ∧ Out g (g + 1) w (w.setCell ⟨g, 0, none⟩ (.int .i64 y)) :=
  ⟨hg.set 0 _, (Out.refl g (g + 1) w).setCell (p := ⟨g, 0, none⟩) (.inl ⟨Nat.le_refl _, Nat.lt_succ_self _⟩) _⟩
theorem catchW_idle {g : Nat} {x : Int} {w : World} (hg : Bl w g #[.int .i64 x] 41) :
    CallsD Tryz.prog 49 #[.pointer (some ⟨g, 0, none⟩)] .returning w fun e u' w' => e = .returned (.tuple #[]) ∧ u' = .returning ∧ Bl w' g #[.int .i64 0] 41 ∧ Out g (g + 1) w w' := by
  refine callsD_of_wpS Tryz.func49 rfl fun c₀ cs hu => ?_
  apply wpS_region
  simp [wpOpsS, go_sem, recoverD, hu, Tryz.ntmps49, Exit.thenS]
  refine calls_same (caught_nil w) ?_
  have a1 := hg.cell (i := 0) rfl
  have a2 := hg.frozen 0
  have h2 := setE hg 0
  simp [go_sem, storeCells, a1, a2, bodyPostS, results, Tryz.results49]
  cases c₀
  simp_all
theorem catchW_stop {g : Nat} {x e a : Int} {older : List PanicEntry} {w : World} (hT : Ty w) (hg : Bl w g #[.int .i64 x] 41) :
    CallsD Tryz.prog 49 #[.pointer (some ⟨g, 0, none⟩)] (.panicking (stopP e a :: older)) w fun e' u' w' => e' = .returned (.tuple #[]) ∧ u' = .panicking ({ v := .iface 138 (.agg #[.int .i64 e, .int .i64 a]), recovered := true } :: older) ∧ Bl w' g #[.int .i64 e] 41 ∧ Out g (g + 1) w w' := by
  refine callsD_of_wpS Tryz.func49 rfl fun c₀ cs hu => ?_
  apply wpS_region
  unfold stopP at hu
  simp [wpOpsS, go_sem, recoverD, hu, Tryz.ntmps49, Exit.thenS]
  refine (caught_stop e a w hT).mono ?_
  rintro e' w1 ⟨rfl, o1⟩
  have h1 := hg.kept o1 (.inr (Nat.zero_le _))
  have a1 := h1.cell (i := 0) rfl
  have a2 := h1.frozen 0
  have h2 := setE h1 e
  have h3 := (o1.any g (g + 1)).trans h2.2
  simp [go_sem, storeCells, a1, a2, bodyPostS, results, Tryz.results49]
  exact ⟨h2.1, h3⟩
end Go.Proofs.YtcnjlbjpeklgkaaGreatDoor
