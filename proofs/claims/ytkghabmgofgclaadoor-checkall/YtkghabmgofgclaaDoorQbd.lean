import Derived.Test.YtkghabmgofgclaaDoorQaq
namespace Go.Proofs.YtkghabmgofgclaaDoor
open Go.RowKit
set_option linter.unusedVariables false
set_option linter.unusedSimpArgs false

/-- what fits answers -/
def FtW (w : World) (nt nf : Nat) (ts : List (List Int)) (fs : List (Int × Int × Int × List (Int × Int))) (e : Ending) (w' : World) : Prop := (∃ b, e = .returned (.bool b) ∧ (b = true → (nt : Int) + (nf : Int) ≤ 300000 ∧ (∀ f ∈ fs, (f.2.2.2.length : Int) ≤ 300000) ∧ ∀ t ∈ ts, (t.length : Int) ≤ 300000)) ∧ Out 0 0 w w'
theorem lt_upW {ts : List (List Int)} {j : Nat} {t : List Int} {N : Int} {l : Nat} (hf : ts[j]? = some t) (hl : t.length = l) (h : ∀ e ∈ ts.take j, (e.length : Int) ≤ N) (h0 : 0 ≤ N) : ∀ e ∈ ts.take (j + 1), (e.length : Int) ≤ N + l := by
  intro e he
  rw [List.take_add_one, hf] at he
  rcases List.mem_append.1 he with q | q
  · have := h e q; omega
  · simp at q; subst q; omega
theorem FtW.mk' {w w' : World} {nt nf : Nat} {ts : List (List Int)} {fs : List (Int × Int × Int × List (Int × Int))} {b : Bool} (h : b = true → (nt : Int) + (nf : Int) ≤ 300000 ∧ (∀ f ∈ fs, (f.2.2.2.length : Int) ≤ 300000) ∧ ∀ t ∈ ts, (t.length : Int) ≤ 300000) (o : Out 0 0 w w') : FtW w nt nf ts fs (.returned (.bool b)) w' := ⟨⟨b, rfl, h⟩, o⟩
theorem le_upW {fs : List (Int × Int × Int × List (Int × Int))} {j : Nat} {f : Int × Int × Int × List (Int × Int)} {N : Int} {l : Nat} (hf : fs[j]? = some f) (hl : f.2.2.2.length = l) (h : ∀ e ∈ fs.take j, (e.2.2.2.length : Int) ≤ N) (h0 : 0 ≤ N) : ∀ e ∈ fs.take (j + 1), (e.2.2.2.length : Int) ≤ N + l := by
  intro e he
  rw [List.take_add_one, hf] at he
  rcases List.mem_append.1 he with q | q
  · have := h e q; omega
  · simp at q; subst q; omega
set_option maxRecDepth 100000 in
set_option maxHeartbeats 2000000 in
theorem fitsW_any {w : World} {B : Nat} (x : Int) (ts : List (List Int)) (fs : List (Int × Int × Int × List (Int × Int))) (ta fa : Option Addr) (nt nf tc fc : Nat) (hnt : ts.length = nt) (hnf : fs.length = nf) (hts : TxIn w B ta ts) (hfs : FnIn w B fa fs) (h1 : Lim nt) (h2 : Lim nf) (h3 : ∀ t ∈ ts, Lim t.length) (h4 : ∀ f ∈ fs, Lim f.2.2.2.length) :
    Calls Tryd.prog 13 #[.agg #[.int .i64 x, .slice ta nt tc, .slice fa nf fc]] w fun e w' => FtW w nt nf ts fs e w' := by
  have HA := hid_mk (Bl.new w #[.int .i64 x, .slice ta nt tc, .slice fa nf fc] 25)
  have HO := hid_mk ((Out.refl 0 0 w).alloc (.cells #[.int .i64 x, .slice ta nt tc, .slice fa nf fc] 25))
  obtain ⟨V, hV⟩ : ∃ V, w.alloc (.cells #[.int .i64 x, .slice ta nt tc, .slice fa nf fc] 25) = V := ⟨_, rfl⟩
  rw [hV] at HA HO
  have HT := hid_mk (hts.kept (Lo.of_out HO.out) (Nat.le_refl _))
  have HF := hid_mk (hfs.kept (Lo.of_out HO.out) (Nat.le_refl _))
  have HN := hid_mk (And.intro hnt hnf)
  have HL3 := hid_mk h3
  have HL4 := hid_mk h4
  have hws := sum_wrap (a := (nt : Int)) (b := (nf : Int)) (by omega) h1 (by omega) h2
  have HL : Hid (Lim nt ∧ Lim nf) := hid_mk ⟨h1, h2⟩
  obtain ⟨p, hp⟩ : ∃ p, w.heap.size = p := ⟨_, rfl⟩
  rw [hp] at HA
  have a1 := HA.out.cell (i := 1) rfl
  have a2 := HA.out.cell (i := 2) rfl
  clear hts hfs hnt hnf h1 h2 h3 h4
  go_enter Tryd.func13, Tryd.ntmps13
  go_wp2_with fail
  (try rw [hV])
  (try rw [hp])
  have HWS := hid_mk hws
  have HWS := hid_mk hws
  clear hV hp hws
  go_loopw [3, 4] (fun nv iv wr => ∃ (i : Nat) (N : Int), iv = .int .i64 i ∧ i ≤ nt ∧ nv = .int .i64 N ∧ (nt : Int) + (nf : Int) ≤ N ∧ N ≤ 4611686018427387904 ∧ (∀ e ∈ ts.take i, (e.length : Int) ≤ N) ∧ wr = V) (fun _ iv _ => nt - (intOf iv).toNat)
  case atStart => exact ⟨0, _, rfl, Nat.zero_le _, rfl, by rw [HWS.out]; exact Int.le_refl _, by rw [HWS.out]; have := HL.out; unfold Lim at this; omega, (by simp), rfl⟩
  case round =>
    obtain ⟨i, N, rfl, him, rfl, hN1, hN2, hN3, hwr⟩ := hrel
    subst hwr
    have HN3 := hid_mk hN3
    clear hN3
    have HN1 := hid_mk hN1
    have HN2 := hid_mk hN2
    clear hN1 hN2 HWS
    by_cases hi : i < nt
    · have g1 : (i : Int) < (nt : Int) := by omega
      by_cases hN : N ≤ 300000
      · have hNd : decide (N ≤ 300000) = true := by simpa using hN
        obtain ⟨t, ht⟩ : ∃ t, ts[i]? = some t := ⟨_, List.getElem?_eq_getElem (by have := HN.out.1; omega)⟩
        rcases HT.out with h0 | ⟨g, off, rfl, hg, hc⟩
        · rw [h0] at ht; cases ht
        obtain ⟨pj, cj, c0, hby⟩ := hc i _ ht
        obtain ⟨lt, hlt⟩ : ∃ k, t.length = k := ⟨_, rfl⟩
        rw [hlt] at c0
        have hlim : Hid ((lt : Int) ≤ 2305843009213693952) := hid_mk (by have := HL3.out _ (List.mem_of_getElem? ht); unfold Lim at this; rw [hlt] at this; exact this)
        have HW := hid_mk (sum_wrap (a := N) (b := (lt : Int)) (by have := HN1.out; omega) (by omega) (by omega) hlim.out)
        have HNl := hid_mk hN
        have HUt := hid_mk (lt_upW ht hlt HN3.out (by have := HN1.out; omega))
        have nb : (nt : Int) ≤ 300000 := by have := HN1.out; omega
        clear ht hc hby hlt hg hN
        go_wp2
        go_roundw
        case rel => exact ⟨i + 1, N + lt, by go_num, by omega, by rw [HW.out], by have := HN1.out; omega, by have := hlim.out; have := HNl.out; omega, HUt.out, trivial⟩
        case measure => simp [intOf]; omega
      · have hNd : decide (N ≤ 300000) = false := by simpa using hN
        have HNg : Hid (300000 < N) := hid_mk (by omega)
        clear hN
        go_wp2
        go_loopw [3, 5] (fun nv jv wz => ∃ (j : Nat) (M : Int), jv = .int .i64 j ∧ j ≤ nf ∧ nv = .int .i64 M ∧ (nt : Int) + (nf : Int) ≤ M ∧ M ≤ 4611686018427387904 ∧ (∀ e ∈ fs.take j, (e.2.2.2.length : Int) ≤ M) ∧ 300000 < M ∧ wz = wr) (fun _ jv _ => nf - (intOf jv).toNat)
        case atStart => exact ⟨0, N, rfl, Nat.zero_le _, rfl, HN1.out, HN2.out, (by simp), HNg.out, rfl⟩
        case round =>
          obtain ⟨j, M, rfl, hjm, rfl, hM1, hM2, hM3, hM4, hwr⟩ := hrel
          subst hwr
          have HM1 := hid_mk hM1
          have HM2 := hid_mk hM2
          have HM3 := hid_mk hM3
          have HM4 := hid_mk hM4
          clear hM1 hM2 hM3 hM4
          by_cases hj : j < nf
          · have g2 : (j : Int) < (nf : Int) := by omega
            by_cases hM : M ≤ 300000
            · have hMd : decide (M ≤ 300000) = true := by simpa using hM
              obtain ⟨⟨f1, f2, f3, fl⟩, hf⟩ : ∃ t, fs[j]? = some t := ⟨_, List.getElem?_eq_getElem (by have := HN.out.2; omega)⟩
              rcases HF.out with h0 | ⟨g, off, rfl, hg, hc⟩
              · rw [h0] at hf; cases hf
              obtain ⟨pj, cj, c0, c1, c2, c3, hin⟩ := hc j _ hf
              dsimp only at c3
              obtain ⟨lf, hlf⟩ : ∃ k, fl.length = k := ⟨_, rfl⟩
              rw [hlf] at c3
              have hlim : Hid ((lf : Int) ≤ 2305843009213693952) := hid_mk (by have := HL4.out _ (List.mem_of_getElem? hf); unfold Lim at this; dsimp only at this; rw [hlf] at this; exact this)
              have HW := hid_mk (sum_wrap (a := M) (b := (lf : Int)) (by have := HM1.out; omega) (by omega) (by omega) hlim.out)
              have HU := hid_mk (le_upW hf hlf HM3.out (by have := HM1.out; omega))
              have HMl := hid_mk hM
              have nb : (nf : Int) ≤ 300000 := by have := HM1.out; omega
              clear hf hc c0 c1 c2 hin hlf hg hM
              go_wp2
              go_roundw
              case rel => exact ⟨j + 1, M + lf, by go_num, by omega, by rw [HW.out], by have := HM1.out; omega, by have := hlim.out; have := HMl.out; omega, HU.out, by have := HM4.out; omega, trivial⟩
              case measure => simp [intOf]; omega
            · have hMd : decide (M ≤ 300000) = false := by simpa using hM
              have HM0 := hid_mk hM
              clear hM
              go_wp2
              go_ret
              exact FtW.mk' (fun q => by cases q) HO.out
          · have hjE : j = nf := by omega
            subst hjE
            have g2 : ¬ ((j : Int) < (j : Int)) := by omega
            go_wp2
            go_ret
            refine FtW.mk' (fun q => ?_) HO.out
            have q' : M ≤ 300000 := by simpa using q
            have := HM4.out; omega
    · have hiE : i = nt := by omega
      subst hiE
      have g1 : ¬ ((i : Int) < (i : Int)) := by omega
      go_wp2
      go_loopw [3, 5] (fun nv jv wz => ∃ (j : Nat) (M : Int), jv = .int .i64 j ∧ j ≤ nf ∧ nv = .int .i64 M ∧ (i : Int) + (nf : Int) ≤ M ∧ M ≤ 4611686018427387904 ∧ (∀ e ∈ fs.take j, (e.2.2.2.length : Int) ≤ M) ∧ (∀ e ∈ ts, (e.length : Int) ≤ M) ∧ wz = wr) (fun _ jv _ => nf - (intOf jv).toNat)
      case atStart => exact ⟨0, N, rfl, Nat.zero_le _, rfl, HN1.out, HN2.out, (by simp), (by have := HN3.out; rw [take_all HN.out.1] at this; exact this), rfl⟩
      case round =>
        obtain ⟨j, M, rfl, hjm, rfl, hM1, hM2, hM3, hM4, hwr⟩ := hrel
        subst hwr
        have HM1 := hid_mk hM1
        have HM2 := hid_mk hM2
        have HM3 := hid_mk hM3
        have HM4 := hid_mk hM4
        clear hM1 hM2 hM3 hM4
        by_cases hj : j < nf
        · have g2 : (j : Int) < (nf : Int) := by omega
          by_cases hM : M ≤ 300000
          · have hMd : decide (M ≤ 300000) = true := by simpa using hM
            obtain ⟨⟨f1, f2, f3, fl⟩, hf⟩ : ∃ t, fs[j]? = some t := ⟨_, List.getElem?_eq_getElem (by have := HN.out.2; omega)⟩
            rcases HF.out with h0 | ⟨g, off, rfl, hg, hc⟩
            · rw [h0] at hf; cases hf
            obtain ⟨pj, cj, c0, c1, c2, c3, hin⟩ := hc j _ hf
            dsimp only at c3
            obtain ⟨lf, hlf⟩ : ∃ k, fl.length = k := ⟨_, rfl⟩
            rw [hlf] at c3
            have hlim : Hid ((lf : Int) ≤ 2305843009213693952) := hid_mk (by have := HL4.out _ (List.mem_of_getElem? hf); unfold Lim at this; dsimp only at this; rw [hlf] at this; exact this)
            have HW := hid_mk (sum_wrap (a := M) (b := (lf : Int)) (by have := HM1.out; omega) (by omega) (by omega) hlim.out)
            have HU := hid_mk (le_upW hf hlf HM3.out (by have := HM1.out; omega))
            have HMl := hid_mk hM
            have nb : (nf : Int) ≤ 300000 := by have := HM1.out; omega
            clear hf hc c0 c1 c2 hin hlf hg hM
            go_wp2
            go_roundw
            case rel => exact ⟨j + 1, M + lf, by go_num, by omega, by rw [HW.out], by have := HM1.out; omega, by have := hlim.out; have := HMl.out; omega, HU.out, (fun e he => by have := HM4.out e he; omega), trivial⟩
            case measure => simp [intOf]; omega
          · have hMd : decide (M ≤ 300000) = false := by simpa using hM
            have HM0 := hid_mk hM
            clear hM
            go_wp2
            go_ret
            exact FtW.mk' (fun q => by cases q) HO.out
        · have hjE : j = nf := by omega
          subst hjE
          have g2 : ¬ ((j : Int) < (j : Int)) := by omega
          go_wp2
          go_ret
          refine FtW.mk' (fun q => ?_) HO.out
          have q' : M ≤ 300000 := by simpa using q
          refine ⟨Int.le_trans HM1.out q', (fun f hf => Int.le_trans (HM3.out f ?_) q'), fun t ht => Int.le_trans (HM4.out t ht) q'⟩
          rw [take_all HN.out.2]; exact hf
end Go.Proofs.YtkghabmgofgclaaDoor
