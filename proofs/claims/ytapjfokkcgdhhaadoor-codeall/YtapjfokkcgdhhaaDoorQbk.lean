import Derived.Test.YtapjfokkcgdhhaaDoorQbc
import Derived.Test.YtapjfokkcgdhhaaDoorQbj
import Derived.Test.YtapjfokkcgdhhaaDoorQbi
namespace Go.Proofs.YtapjfokkcgdhhaaDoor
open Go.RowKit
set_option linter.unusedVariables false
set_option linter.unusedSimpArgs false

theorem wr_smallK {x : Int} (h0 : 0 ≤ x) (h1 : x ≤ 4611686018427387904) : wrap64 x = x := by unfold wrap64; omega
/-- a call that is played -/
def CaP (M : Int) (C : ((Int × List (List Int) × List (Int × Int × Int × List (Int × Int))) × List Int)) : Prop := PlP C.1.1 C.1.2.1 C.1.2.2 ∧ (C.2.length : Int) ≤ M
theorem take_cap {cs : List ((Int × List (List Int) × List (Int × Int × Int × List (Int × Int))) × List Int)} {i : Nat} {C : ((Int × List (List Int) × List (Int × Int × Int × List (Int × Int))) × List Int)} {M M' : Int} (h : cs[i]? = some C) (hC : CaP M' C) (hM : M ≤ M') (ha : ∀ D ∈ cs.take i, CaP M D) : ∀ D ∈ cs.take (i + 1), CaP M' D := by
  intro D hD
  rw [List.take_add_one, h] at hD
  rcases List.mem_append.1 hD with q | q
  · have := ha D q; exact ⟨this.1, Int.le_trans this.2 hM⟩
  · simp at q; subst q; exact hC
set_option maxRecDepth 100000 in
set_option maxHeartbeats 4000000 in
theorem codeall_any {w : World} (hT : Ty w) (pa : Option Addr) (cs : List ((Int × List (List Int) × List (Int × Int × Int × List (Int × Int))) × List Int)) (n pc : Nat) (hn : cs.length = n) (hp : CaIn w w.heap.size pa cs) (hk : ∀ C ∈ cs, CaOk C) (hl : n ≤ 140737488351232) :
    Calls Tryd.prog 4 #[.slice pa n pc] w fun e w' => e = .returned (.bool true) ∧ Out 0 0 w w' := by
  have HH : Hid (cs.length = n ∧ (∀ C ∈ cs, CaOk C) ∧ Ty w ∧ n ≤ 140737488351232) := hid_mk ⟨hn, hk, hT, hl⟩
  have HP := hid_mk hp
  clear hn hk hT hl hp
  go_enter Tryd.func4, Tryd.ntmps4
  go_wp2
  go_loopw [3, 4] (fun nv iv wr => ∃ (i : Nat) (M : Int), iv = .int .i64 i ∧ i ≤ n ∧ i ≤ 20 ∧ nv = .int .i64 M ∧ 0 ≤ M ∧ M ≤ 200000000000000 ∧ (∀ C ∈ cs.take i, CaP M C) ∧ Out 0 0 w wr) (fun _ iv _ => n - (intOf iv).toNat)
  case atStart => exact ⟨0, 0, rfl, Nat.zero_le _, Nat.zero_le _, rfl, by omega, by omega, by simp, Out.refl _ _ _⟩
  case round =>
    obtain ⟨i, M, rfl, him, hi20, rfl, hM0, hM1, hPl, hO⟩ := hrel
    have HW : Hid (0 ≤ M ∧ M ≤ 200000000000000 ∧ (∀ C ∈ cs.take i, CaP M C) ∧ Out 0 0 w wr) := hid_mk ⟨hM0, hM1, hPl, hO⟩
    clear hM0 hM1 hPl hO
    by_cases hgo : i < n
    · obtain ⟨l1, l2⟩ := lt_d hgo
      by_cases h20 : i < 20
      · have l3 : decide ((i : Int) < 20) = true := by simp; omega
        by_cases hM : M ≤ 20000
        · have l4 : decide (M ≤ 20000) = true := by simpa using hM
          obtain ⟨C, hCi⟩ : ∃ C, cs[i]? = some C := ⟨_, List.getElem?_eq_getElem (by have := HH.out.1; omega)⟩
          obtain ⟨hn, hk, hT, hl⟩ := HH.out
          obtain ⟨-, -, hPl, hO⟩ := HW.out
          have hCo := hk C (List.mem_of_getElem? hCi)
          obtain ⟨⟨x, ts, fs⟩, bs⟩ := C
          rcases HP.out with h0 | ⟨g, off, rfl, hg, hcs⟩
          · rw [h0] at hCi; simp at hCi
          obtain ⟨ta, tc, fa, fc, ba, bc, c0, c1, c2, c3, hbc, hts, hfs, hbs⟩ := hcs i _ hCi
          obtain ⟨nt, hnt⟩ : ∃ nt, ts.length = nt := ⟨_, rfl⟩
          obtain ⟨nf, hnf⟩ : ∃ nf, fs.length = nf := ⟨_, rfl⟩
          obtain ⟨nb, hnb⟩ : ∃ nb, bs.length = nb := ⟨_, rfl⟩
          have big : ∀ {k : Nat}, k ≤ 140737488351232 → Lim k := fun h => by unfold Lim; omega
          simp only at c0 c1 c2 c3 hts hfs hbs
          rw [hnt] at c1
          rw [hnf] at c2
          rw [hnb] at c3
          replace c0 := hO.cell c0 (.inr (Nat.zero_le _))
          replace c1 := hO.cell c1 (.inr (Nat.zero_le _))
          replace c2 := hO.cell c2 (.inr (Nat.zero_le _))
          replace c3 := hO.cell c3 (.inr (Nat.zero_le _))
          have HFt := hid_mk (fitsW_any (w := wr) x ts fs ta fa nt nf tc fc hnt hnf (hts.kept (Lo.of_out hO) (Nat.le_refl _)) (hfs.kept (Lo.of_out hO) (Nat.le_refl _)) (big (hnt ▸ hCo.2.1)) (big (hnf ▸ hCo.2.2.2.1)) (fun t ht => big (hCo.1 t ht)) (fun f hf => big (hCo.2.2.1 f hf).2))
          have lmi : (i : Int) < (n : Int) := by omega
          have HI : Hid (i < n ∧ i < 20 ∧ M ≤ 20000 ∧ cs[i]? = some ((x, ts, fs), bs) ∧ ts.length = nt ∧ fs.length = nf ∧ bs.length = nb ∧ (∀ f ∈ fs, MI f.2.2.2) ∧ nb ≤ 140737488351232) := hid_mk ⟨hgo, h20, hM, hCi, hnt, hnf, hnb, fun f hf => (hCo.2.2.1 f hf).1, hnb ▸ hCo.2.2.2.2⟩
          have HF := hid_mk (And.intro hfs hts)
          clear hn hk hT hl hPl hO hCo hcs hts hfs hbs hbc hnt hnf hnb big hCi hM h20 hgo him hg hi20
          go_wp2_with fail
          refine HFt.out.mono ?_
          clear HFt
          rintro e w1 ⟨⟨fb, rfl, hfb⟩, o1⟩
          have HO1 := hid_mk (HW.out.2.2.2.trans o1)
          cases fb with
          | false =>
            clear hfb o1 c0 c1 c2 c3
            go_wp2_with (go_at_call 5; refine (alive_any (HH.out.2.2.1.out HO1.out (.inr rfl))).mono ?_; rintro e w2 ⟨rfl, o2⟩; have HO2 := hid_mk (HO1.out.trans o2); clear o2)
            go_ret
            exact ⟨rfl, HO2.out⟩
          | true =>
            obtain ⟨p1, p2, p3⟩ := hfb rfl
            obtain ⟨hgo, h20, hM, hCi, hnt, hnf, hnb, hMI, hnbl⟩ := HI.out
            have HQ : Hid (PlP x ts fs ∧ (∀ f ∈ fs, (f.2.2.2.length : Int) ≤ 300000) ∧ ∀ t ∈ ts, (t.length : Int) ≤ 300000) := hid_mk ⟨⟨by rw [hnt, hnf]; omega, fun f hf => by have := p2 f hf; omega, fun t ht => by have := p3 t ht; omega, hMI⟩, p2, p3⟩
            have HN3 : Hid (nf ≤ 300000 ∧ nt ≤ 300000 ∧ nb ≤ 140737488351232 ∧ 0 ≤ M ∧ M ≤ 20000) := hid_mk ⟨by omega, by omega, hnbl, HW.out.1, hM⟩
            replace c1 := o1.cell c1 (.inr (Nat.zero_le _))
            replace c2 := o1.cell c2 (.inr (Nat.zero_le _))
            replace c3 := o1.cell c3 (.inr (Nat.zero_le _))
            have HF1 := hid_mk (And.intro (HF.out.1.kept (Lo.of_out HO1.out) (Nat.le_refl _)) (HF.out.2.kept (Lo.of_out HO1.out) (Nat.le_refl _)))
            have hs0 : wrap64 (M + (nb : Int)) = M + nb := wr_smallK (by have := HN3.out; omega) (by have := HN3.out; omega)
            have HS0 := hid_mk hs0
            clear hfb p1 p2 p3 hgo h20 hM hCi hnt hnf hnb hMI hnbl c0 o1 HF
            go_wp2
            clear hs0 c3
            go_loopw [3, 5] (fun nv jv wr => ∃ (j : Nat) (M2 : Int), jv = .int .i64 j ∧ j ≤ nf ∧ nv = .int .i64 M2 ∧ M + nb ≤ M2 ∧ M2 ≤ 20000 + nb + j * 300000 ∧ wr = w1) (fun _ jv _ => nf - (intOf jv).toNat)
            case atStart => exact ⟨0, M + nb, rfl, Nat.zero_le _, by first | rfl | rw [HS0.out], by omega, by have := HN3.out; omega, rfl⟩
            case round =>
              obtain ⟨j, M2, rfl, hjm, rfl, hm0, hm1, rfl⟩ := hrel
              by_cases hgj : j < nf
              · obtain ⟨p1, p2⟩ := lt_d hgj
                obtain ⟨f, hf⟩ : ∃ f, fs[j]? = some f := ⟨_, List.getElem?_eq_getElem (by have := HI.out.2.2.2.2.2.1; omega)⟩
                rcases HF1.out.1 with h0 | ⟨fg, foff, rfl, hfg, hcs⟩
                · rw [h0] at hf; simp at hf
                obtain ⟨pj, cj, -, -, -, d3, -⟩ := hcs j f hf
                obtain ⟨m, hm⟩ : ∃ m, f.2.2.2.length = m := ⟨_, rfl⟩
                have hm3 : (m : Int) ≤ 300000 := by rw [← hm]; exact HQ.out.2.1 f (List.mem_of_getElem? hf)
                rw [hm] at d3
                have hs : wrap64 (M2 + (m : Int)) = M2 + m := wr_smallK (by have := HN3.out; omega) (by have := HN3.out; omega)
                have lmj : (j : Int) < (nf : Int) := by omega
                have HJ : Hid (j < nf ∧ M + (nb : Int) ≤ M2 + (m : Int) ∧ M2 + (m : Int) ≤ 20000 + nb + ((j + 1 : Nat) : Int) * 300000 ∧ nf ≤ 300000) := hid_mk ⟨hgj, by omega, by omega, HN3.out.1⟩
                clear hcs hf hm hm3 hm0 hm1 hgj hjm hfg
                go_wp2
                exact ⟨⟨j + 1, M2 + m, up_V HJ.out.1 (by have := HJ.out; omega), HJ.out.1, by rw [hs], HJ.out.2.1, HJ.out.2.2.1, by trivial⟩, by rw [up_W HJ.out.1 (by have := HJ.out; omega)]; exact ms_N HJ.out.1⟩
              · obtain rfl : nf = j := by omega
                have p1 : decide ((nf : Int) < (nf : Int)) = false := by simp
                have HJ : Hid (M + nb ≤ M2 ∧ M2 ≤ 20000 + nb + 90000000000) := hid_mk ⟨hm0, by have := HN3.out; omega⟩
                clear hm0 hm1 hgj hjm
                go_wp2
                go_loopw [3, 6] (fun nv jv wz => ∃ (j : Nat) (M3 : Int), jv = .int .i64 j ∧ j ≤ nt ∧ nv = .int .i64 M3 ∧ M + nb ≤ M3 ∧ M3 ≤ 20000 + nb + 90000000000 + j * 300000 ∧ wz = wr) (fun _ jv _ => nt - (intOf jv).toNat)
                case atStart => exact ⟨0, M2, rfl, Nat.zero_le _, rfl, HJ.out.1, by have := HJ.out.2; omega, rfl⟩
                case round =>
                  obtain ⟨j, M3, rfl, hjm, rfl, hm0, hm1, rfl⟩ := hrel
                  by_cases hgj : j < nt
                  · obtain ⟨p3, p4⟩ := lt_d hgj
                    obtain ⟨t, ht⟩ : ∃ t, ts[j]? = some t := ⟨_, List.getElem?_eq_getElem (by have := HI.out.2.2.2.2.1; omega)⟩
                    rcases HF1.out.2 with h0 | ⟨tg, toff, rfl, htg, hcs⟩
                    · rw [h0] at ht; simp at ht
                    obtain ⟨pj, cj, d3, -⟩ := hcs j t ht
                    obtain ⟨m, hm⟩ : ∃ m, t.length = m := ⟨_, rfl⟩
                    have hm3 : (m : Int) ≤ 300000 := by rw [← hm]; exact HQ.out.2.2 t (List.mem_of_getElem? ht)
                    rw [hm] at d3
                    have hs : wrap64 (M3 + (m : Int)) = M3 + m := wr_smallK (by have := HN3.out; omega) (by have := HN3.out; omega)
                    have lmj : (j : Int) < (nt : Int) := by omega
                    have HK : Hid (j < nt ∧ M + (nb : Int) ≤ M3 + (m : Int) ∧ M3 + (m : Int) ≤ 20000 + nb + 90000000000 + ((j + 1 : Nat) : Int) * 300000 ∧ nt ≤ 300000) := hid_mk ⟨hgj, by omega, by omega, HN3.out.2.1⟩
                    clear hcs ht hm hm3 hm0 hm1 hgj hjm htg
                    go_wp2
                    exact ⟨⟨j + 1, M3 + m, up_V HK.out.1 (by have := HK.out; omega), HK.out.1, by rw [hs], HK.out.2.1, HK.out.2.2.1, by trivial⟩, by rw [up_W HK.out.1 (by have := HK.out; omega)]; exact ms_N HK.out.1⟩
                  · obtain rfl : nt = j := by omega
                    have p3 : decide ((nt : Int) < (nt : Int)) = false := by simp
                    have HK : Hid (M ≤ M3 ∧ (nb : Int) ≤ M3 ∧ M3 ≤ 200000000000000 ∧ 0 ≤ M3) := hid_mk (by have := HN3.out; omega)
                    clear hm0 hm1 hgj hjm
                    go_wp2
                    exact ⟨⟨i + 1, M3, up_V (K := 20) HI.out.2.1 (by omega), HI.out.1, HI.out.2.1, rfl, HK.out.2.2.2, HK.out.2.2.1, take_cap HI.out.2.2.2.1 ⟨HQ.out.1, by rw [HI.out.2.2.2.2.2.2.1]; exact HK.out.2.1⟩ HK.out.1 HW.out.2.2.1, HO1.out⟩, by rw [up_W (K := 20) HI.out.2.1 (by omega)]; exact ms_N HI.out.1⟩
        · have l4 : decide (M ≤ 20000) = false := by simp; omega
          have l5 : decide (20000 < M) = true := by simp; omega
          clear him hgo hi20 h20 hM
          go_wp2_with (go_at_call 5; refine (alive_any (HH.out.2.2.1.out HW.out.2.2.2 (.inr rfl))).mono ?_; rintro e w2 ⟨rfl, o2⟩; have HO2 := hid_mk (HW.out.2.2.2.trans o2); clear o2)
          go_ret
          exact ⟨rfl, HO2.out⟩
      · have l3 : decide ((i : Int) < 20) = false := by simp; omega
        have l6 : decide (20 < (n : Int)) = true := by simp; omega
        by_cases hM : M ≤ 20000
        · have l5 : decide (20000 < M) = false := by simp; omega
          clear him hgo hi20 h20 hM
          go_wp2_with (go_at_call 5; refine (alive_any (HH.out.2.2.1.out HW.out.2.2.2 (.inr rfl))).mono ?_; rintro e w2 ⟨rfl, o2⟩; have HO2 := hid_mk (HW.out.2.2.2.trans o2); clear o2)
          go_ret
          exact ⟨rfl, HO2.out⟩
        · have l5 : decide (20000 < M) = true := by simp; omega
          clear him hgo hi20 h20 hM
          go_wp2_with (go_at_call 5; refine (alive_any (HH.out.2.2.1.out HW.out.2.2.2 (.inr rfl))).mono ?_; rintro e w2 ⟨rfl, o2⟩; have HO2 := hid_mk (HW.out.2.2.2.trans o2); clear o2)
          go_ret
          exact ⟨rfl, HO2.out⟩
    · obtain rfl : n = i := by omega
      have l1 : decide ((n : Int) < (n : Int)) = false := by simp
      by_cases hM : M ≤ 20000
      · have l5 : decide (20000 < M) = false := by simp; omega
        have l6 : decide (20 < (n : Int)) = false := by simp; omega
        obtain ⟨bk, hbk⟩ : ∃ bk, wr.heap.size = bk := ⟨_, rfl⟩
        obtain ⟨W1, hW1⟩ : ∃ W1, wr.alloc (.cells #[.slice none 0 0, .slice none 0 0, .slice none 0 0, .slice none 0 0] 28) = W1 := ⟨_, rfl⟩
        have oK : Out 0 0 wr W1 := by rw [← hW1]; exact (Out.refl 0 0 wr).alloc _
        have bK : Bl W1 bk #[.slice none 0 0, .slice none 0 0, .slice none 0 0, .slice none 0 0] 28 := by rw [← hW1, ← hbk]; exact Bl.new _ _ _
        have HK1 : Hid (KP W1 (bk + 1) bk 0 0 ∧ Out 0 0 w W1 ∧ bk + 1 ≤ W1.heap.size ∧ w.heap.size ≤ bk ∧ n ≤ 20 ∧ ∀ C ∈ cs, CaP 20000 C) := hid_mk ⟨kp_start bK, HW.out.2.2.2.trans oK, bK.lt, by rw [← hbk]; exact HW.out.2.2.2.size, hi20, fun C hC => by
          have := HW.out.2.2.1
          rw [List.take_of_length_le (by have := HH.out.1; omega)] at this
          exact ⟨(this C hC).1, Int.le_trans (this C hC).2 hM⟩⟩
        clear oK bK him hgo hM hi20 HW
        go_wp2_with fail
        (try rw [hW1])
        (try rw [hbk])
        clear hW1 hbk
        go_loopw [8] (fun iv wr => ∃ (i : Nat), iv = .int .i64 i ∧ i ≤ n ∧ KP wr (bk + 1) bk (i * 2) (i * 2) ∧ Out 0 0 w wr ∧ bk + 1 ≤ wr.heap.size) (fun iv _ => n - (intOf iv).toNat)
        case atStart => exact ⟨0, rfl, Nat.zero_le _, HK1.out.1, HK1.out.2.1, HK1.out.2.2.1⟩
        case round =>
          obtain ⟨i, rfl, him, hK, hO, hsz⟩ := hrel
          by_cases hgo : i < n
          · obtain ⟨p1, p2⟩ := lt_d hgo
            obtain ⟨hn, hk, hT, hl⟩ := HH.out
            obtain ⟨-, -, -, hwb, hn20, hall⟩ := HK1.out
            obtain ⟨C, hCi⟩ : ∃ C, cs[i]? = some C := ⟨_, List.getElem?_eq_getElem (by omega)⟩
            have hCP := hall C (List.mem_of_getElem? hCi)
            obtain ⟨⟨x, ts, fs⟩, bs⟩ := C
            rcases HP.out with h0 | ⟨g, off, rfl, hg, hcs⟩
            · rw [h0] at hCi; simp at hCi
            obtain ⟨ta, tc, fa, fc, ba, bc, c0, c1, c2, c3, hbc, hts, hfs, hbs⟩ := hcs i _ hCi
            obtain ⟨nt, hnt⟩ : ∃ nt, ts.length = nt := ⟨_, rfl⟩
            obtain ⟨nf, hnf⟩ : ∃ nf, fs.length = nf := ⟨_, rfl⟩
            obtain ⟨nb, hnb⟩ : ∃ nb, bs.length = nb := ⟨_, rfl⟩
            have lmi : (i : Int) < (n : Int) := by omega
            simp only at c0 c1 c2 c3 hts hfs hbs hbc
            rw [hnt] at c1
            rw [hnf] at c2
            rw [hnb] at c3 hbc
            have hnb2 : nb ≤ 300000 := by have := hCP.2; simp only at this; omega
            have HWs : Hid (∀ W k m, Out 0 0 w W → bk + 1 ≤ W.heap.size → k ≤ 1000 → KP W (bk + 1) bk k m → Calls Tryd.prog 9 #[.agg #[.int .i64 x, .slice ta nt tc, .slice fa nf fc], .pointer (some ⟨bk, 0, none⟩)] W fun e w' => e = .returned (.bool true) ∧ Out 0 0 w w' ∧ bk + 1 ≤ w'.heap.size ∧ KP w' (bk + 1) bk (k + 1) m) := hid_mk fun W k m o hs hk1 hKP => (writesK_any (w := W) (B := w.heap.size) (hT.out o (.inr rfl)) o.size x ts fs ta fa nt tc nf fc hnt hnf (hts.kept (Lo.of_out o) (Nat.le_refl _)) (hfs.kept (Lo.of_out o) (Nat.le_refl _)) hCP.1 hs ⟨hk1, hwb, hT.lt⟩ hKP).mono fun e w' ⟨h1, h2, h3⟩ => ⟨h1, out_fx o h2 (fun k hk => by omega), Nat.le_trans hs h2.size, h3⟩
            have HRs : Hid (∀ W k m, Out 0 0 w W → bk + 1 ≤ W.heap.size → m ≤ 1000 → KP W (bk + 1) bk k m → Calls Tryd.prog 6 #[.slice ba nb bc, .pointer (some ⟨bk, 0, none⟩)] W fun e w' => e = .returned (.bool true) ∧ Out 0 0 w w' ∧ bk + 1 ≤ w'.heap.size ∧ KP w' (bk + 1) bk k (m + 1)) := hid_mk fun W k m o hs hk1 hKP => (reads_any (w := W) (B := w.heap.size) (hT.out o (.inr rfl)) o.size ba bs nb bc (hbs.kept (Lo.of_out o) (Nat.le_refl _)) hnb hbc hnb2 hs ⟨hk1, hwb, hT.lt⟩ hKP).mono fun e w' ⟨h1, h2, h3⟩ => ⟨h1, out_fx o h2 (fun k hk => by omega), Nat.le_trans hs h2.size, h3⟩
            have HC : Hid (∀ W, Out 0 0 w W → W.cell? ⟨g, off + i * 4, none⟩ = some (.int .i64 x) ∧ W.cell? ⟨g, off + i * 4 + 1, none⟩ = some (.slice ta nt tc) ∧ W.cell? ⟨g, off + i * 4 + 2, none⟩ = some (.slice fa nf fc) ∧ W.cell? ⟨g, off + i * 4 + 3, none⟩ = some (.slice ba nb bc)) := hid_mk fun W o => ⟨o.cell c0 (.inr (Nat.zero_le _)), o.cell c1 (.inr (Nat.zero_le _)), o.cell c2 (.inr (Nat.zero_le _)), o.cell c3 (.inr (Nat.zero_le _))⟩
            have HI : Hid (i < n ∧ n ≤ 20) := hid_mk ⟨hgo, hn20⟩
            have HC1 := hid_mk (HWs.out wr _ _ hO hsz (by omega) hK)
            obtain ⟨c0, c1, c2, c3⟩ := HC.out wr hO
            clear hn hk hT hl hwb hn20 hall hCi hCP hcs hts hfs hbs hbc hnt hnf hnb hnb2 hK hO hsz hgo him hg
            go_wp2_with fail
            refine HC1.out.mono ?_
            clear HC1 c0 c1 c2 c3
            rintro e w3 ⟨rfl, o3, s3, k3⟩
            have HC2 := hid_mk (HRs.out w3 _ _ o3 s3 (by have := HI.out; omega) k3)
            obtain ⟨c0, c1, c2, c3⟩ := HC.out w3 o3
            clear o3 s3 k3
            go_wp2_with fail
            refine HC2.out.mono ?_
            clear HC2 c0 c1 c2 c3
            rintro e w4 ⟨rfl, o4, s4, k4⟩
            have HC3 := hid_mk (HWs.out w4 _ _ o4 s4 (by have := HI.out; omega) k4)
            obtain ⟨c0, c1, c2, c3⟩ := HC.out w4 o4
            clear o4 s4 k4
            go_wp2_with fail
            refine HC3.out.mono ?_
            clear HC3 c0 c1 c2 c3
            rintro e w5 ⟨rfl, o5, s5, k5⟩
            have HC4 := hid_mk (HRs.out w5 _ _ o5 s5 (by have := HI.out; omega) k5)
            obtain ⟨c0, c1, c2, c3⟩ := HC.out w5 o5
            clear o5 s5 k5
            go_wp2_with fail
            refine HC4.out.mono ?_
            clear HC4 c0 c1 c2 c3
            rintro e w6 ⟨rfl, o6, s6, k6⟩
            have HE : Hid (KP w6 (bk + 1) bk ((i + 1) * 2) ((i + 1) * 2) ∧ Out 0 0 w w6 ∧ bk + 1 ≤ w6.heap.size) := hid_mk ⟨by rw [show (i + 1) * 2 = i * 2 + 1 + 1 by omega]; exact k6, o6, s6⟩
            clear o6 s6 k6 HWs HRs HC
            go_wp2
            exact ⟨⟨i + 1, up_V HI.out.1 (by have := HI.out; omega), HI.out.1, HE.out⟩, by rw [up_W HI.out.1 (by have := HI.out; omega)]; exact ms_N HI.out.1⟩
          · obtain rfl : n = i := by omega
            have p1 : decide ((n : Int) < (n : Int)) = false := by simp
            have HAl := hid_mk (alive_any (w := wr) (HH.out.2.2.1.out hO (.inr rfl)))
            have HJ := hid_mk (And.intro hK (And.intro hO hsz))
            clear hK hO hsz hgo him
            go_wp2_with fail
            refine HAl.out.mono ?_
            clear HAl
            rintro e w3 ⟨rfl, o3⟩
            obtain ⟨hK, hO, hsz⟩ := HJ.out
            have hn20 := HK1.out.2.2.2.2.1
            have HAp := hid_mk (kapart_any (w := w3) (Nat.le_trans hsz o3.size) (by omega) (by omega) (hK.quiet o3))
            have HX3 := hid_mk (And.intro (hO.trans o3) HK1.out.2.2.2.1)
            clear hK hO hsz o3 hn20
            go_wp2_with (go_at_call 7; refine HAp.out.mono ?_; rintro e w4 ⟨rfl, x4⟩; have HX4 := hid_mk x4; clear x4)
            go_ret
            exact ⟨rfl, out_fx HX3.out.1 HX4.out (fun k hk => by have := HX3.out.2; omega)⟩
      · have l5 : decide (20000 < M) = true := by simp; omega
        clear him hgo hi20 hM
        go_wp2_with (go_at_call 5; refine (alive_any (HH.out.2.2.1.out HW.out.2.2.2 (.inr rfl))).mono ?_; rintro e w2 ⟨rfl, o2⟩; have HO2 := hid_mk (HW.out.2.2.2.trans o2); clear o2)
        go_ret
        exact ⟨rfl, HO2.out⟩
end Go.Proofs.YtapjfokkcgdhhaaDoor
