/- the law: CodeBack -/
import Derived.Test.YtnekepeojadhaaaDoorUtb
namespace Go.Proofs.YtnekepeojadhaaaDoor
open Go.RowKit
set_option linter.unusedVariables false
set_option linter.unusedSimpArgs false

theorem ok_mi {P : Int × List (List Int) × List (Int × Int × Int × List (Int × Int))} (h : okP P) : ∀ f ∈ P.2.2, MI f.2.2.2 := by
  intro f hf x hx
  have hI := (h.2.2.2.2 f hf).2.2.2.2 x hx
  have h1 := opS_in hI.1
  have hle := opS_le x.1
  obtain ⟨k0, k1, k2, k3, k4⟩ := hI
  refine ⟨by omega, ?_⟩
  have : opS x.1 = 1 ∨ opS x.1 = 2 ∨ opS x.1 = 3 ∨ opS x.1 = 4 := by omega
  rcases this with q | q | q | q
  · have := k1 q; omega
  · have := k2 q; omega
  · have := k3 q; omega
  · exact k4 q
theorem ok_big {P : Int × List (List Int) × List (Int × Int × Int × List (Int × Int))} (h : okP P) : (P.2.1.length : Int) ≤ 400000 ∧ (P.2.2.length : Int) ≤ 400000 ∧ ∀ f ∈ P.2.2, (f.2.2.2.length : Int) ≤ 400000 := by
  refine ⟨by have := h.2.1; omega, by have := h.2.2.2.1; omega, fun f hf => by have := (h.2.2.2.2 f hf).2.2.2.1; omega⟩
/-- Write in words of the law's -/
theorem write_at {w : World} {B : Nat} (hT : Ty w) (hB : B ≤ w.heap.size) (x : Int) (ts : List (List Int)) (fs : List (Int × Int × Int × List (Int × Int))) (ta fa : Option Addr) (nt tc nf fc : Nat) (hnt : ts.length = nt) (hnf : fs.length = nf) (hts : TxIn w B ta ts) (hfs : FnIn w B fa fs) (hM : ∀ f ∈ fs, MI f.2.2.2) (hBt : Byt (wrB (x, ts, fs))) :
    Calls Tryd.prog 14 #[.agg #[.int .i64 x, .slice ta nt tc, .slice fa nf fc]] w fun e w' => ∃ ra K cap, e = .returned (.tuple #[.slice ra K cap, .int .i64 (wrE (x, ts, fs))]) ∧ Out 0 0 w w' ∧ ByIn w' w'.heap.size ra (wrB (x, ts, fs)) ∧ (wrB (x, ts, fs)).length = K ∧ K ≤ cap :=
  (write_any hT hB x ts fs ta fa nt tc nf fc hnt hnf hts hfs hM).mono fun e w' ⟨ra, K, cap, h1, h2, h3, h4⟩ => ⟨ra, K, cap, h1, h2, ByIn.own hBt h3 (fun q hq => (own_ge h3 hq).2), h4, by
    rcases h3.2 with ⟨q, q'⟩ | ⟨g, c2, cur, q, _, _, h9, _⟩
    · cases q; omega
    · cases q; exact h9⟩
theorem wr_byt {P : Int × List (List Int) × List (Int × Int × Int × List (Int × Int))} (h : ∀ t ∈ P.2.1, Byt t) : Byt (wrB P) := by
  by_cases hk : okP P
  · by_cases hl : (encP P).length ≤ 65536
    · rw [(wr_ok hk hl).2]; exact enc_byt hk h
    · rw [(wr_long hk (by omega)).2]; exact Byt.nil
  · rw [(wr_form hk).2]; exact Byt.nil
theorem tx_byt {w : World} {B : Nat} {p : Option Addr} {ts : List (List Int)} (h : TxIn w B p ts) : ∀ t ∈ ts, Byt t := by
  intro t ht
  obtain ⟨j, hj, rfl⟩ := List.getElem_of_mem ht
  rcases h with h | ⟨g, off, _, _, h3⟩
  · subst h; simp at hj
  · obtain ⟨_, _, _, hb, _⟩ := h3 j _ (List.getElem?_eq_getElem hj)
    exact hb
set_option maxRecDepth 100000 in
set_option maxHeartbeats 4000000 in
theorem back_any {w : World} (hT : Ty w) (x : Int) (ts : List (List Int)) (fs : List (Int × Int × Int × List (Int × Int))) (ta fa : Option Addr) (nt tc nf fc : Nat) (hnt : ts.length = nt) (hnf : fs.length = nf) (hts : TxIn w w.heap.size ta ts) (hfs : FnIn w w.heap.size fa fs) (hM : ∀ f ∈ fs, MI f.2.2.2)
    (h1 : Lim nt) (h2 : Lim nf) (h3 : ∀ t ∈ ts, Lim t.length) (h4 : ∀ f ∈ fs, Lim f.2.2.2.length) (ba : Option Addr) (n cap : Nat) (bs : List Int) (hin : ByIn w w.heap.size ba bs) (hn : bs.length = n) (hc : n ≤ cap) :
    Calls Tryd.prog 6 #[.agg #[.int .i64 x, .slice ta nt tc, .slice fa nf fc], .slice ba n cap] w fun e w' => e = .returned (.bool true) ∧ Out 0 0 w w' := by
  have HA := hid_mk (Bl.new w #[.int .i64 x, .slice ta nt tc, .slice fa nf fc] 25)
  have HO := hid_mk ((Out.refl 0 0 w).alloc (.cells #[.int .i64 x, .slice ta nt tc, .slice fa nf fc] 25))
  obtain ⟨V, hV⟩ : ∃ V, w.alloc (.cells #[.int .i64 x, .slice ta nt tc, .slice fa nf fc] 25) = V := ⟨_, rfl⟩
  rw [hV] at HA HO
  have HTy := hid_mk hT
  obtain ⟨p, hp⟩ : ∃ p, w.heap.size = p := ⟨_, rfl⟩
  rw [hp] at HA hts hfs hin
  have hpl : Hid (p ≤ V.heap.size) := hid_mk (by have := HA.out.lt; omega)
  have HT := hid_mk (hts.kept (Lo.of_out HO.out) (Nat.le_refl _))
  have HF := hid_mk (hfs.kept (Lo.of_out HO.out) (Nat.le_refl _))
  have HI := hid_mk (hin.kept (Lo.of_out HO.out) (Nat.le_refl _))
  have HN := hid_mk (And.intro hnt (And.intro hnf (And.intro hn hc)))
  have HM := hid_mk hM
  have HFt := hid_mk (fits_any x ts fs ta fa nt nf tc fc hnt hnf HT.out HF.out h1 h2 h3 h4)
  have a0 := HA.out.cell (i := 0) rfl
  have a1 := HA.out.cell (i := 1) rfl
  have a2 := HA.out.cell (i := 2) rfl
  clear hts hfs hnt hnf h1 h2 h3 h4 hT hin hn hc hM
  go_enter Tryd.func6, Tryd.ntmps6
  go_wp2_with fail
  (try rw [hV])
  (try rw [hp])
  clear hV hp a0 a1 a2
  refine HFt.out.mono ?_
  rintro e w1 ⟨⟨b, rfl, hb⟩, o1⟩
  cases b with
  | false =>
    have HO1 := hid_mk (HO.out.trans o1)
    clear o1 hb
    go_wp2_with (go_at_call 10; refine (alive_any (HTy.out.out HO1.out (.inr rfl))).mono ?_; rintro e w2 ⟨rfl, o2⟩)
    go_ret
    exact ⟨rfl, HO1.out.trans o2⟩
  | true =>
    have HB := hid_mk (hb rfl)
    have HO1 := hid_mk (HO.out.trans o1)
    have HV1 := hid_mk o1
    have b1 := kept0 HA.out o1
    have a0 := b1.cell (i := 0) rfl
    have a1 := b1.cell (i := 1) rfl
    have a2 := b1.cell (i := 2) rfl
    clear o1 hb b1
    by_cases hL : (300000 : Int) < (n : Int)
    · have hd : decide ((300000 : Int) < (n : Int)) = true := by simpa using hL
      clear hL
      go_wp2_with (go_at_call 10; refine (alive_any (HTy.out.out HO1.out (.inr rfl))).mono ?_; rintro e w2 ⟨rfl, o2⟩)
      go_ret
      exact ⟨rfl, HO1.out.trans o2⟩
    · have hd : decide ((300000 : Int) < (n : Int)) = false := by simpa using hL
      clear hL
      have HBt := hid_mk (wr_byt (P := (x, ts, fs)) (tx_byt HT.out))
      go_wp2_with fail
      refine (write_at (HTy.out.out HO1.out (.inr rfl)) (Nat.le_trans hpl.out HV1.out.size) x ts fs ta fa nt tc nf fc HN.out.1 HN.out.2.1 (HT.out.kept (Lo.of_out HV1.out) (Nat.le_refl _)) (HF.out.kept (Lo.of_out HV1.out) (Nat.le_refl _)) HM.out HBt.out).mono ?_
      rintro e w2 ⟨ra, K, cap2, rfl, o2, hb2, hK2, hc2⟩
      clear a0 a1 a2
      by_cases hok : okP (x, ts, fs)
      · by_cases hlen : (encP (x, ts, fs)).length ≤ 65536
        · have hw2 := wr_ok hok hlen
          rw [hw2.2] at hb2 hK2
          rw [hw2.1]
          have HOK := hid_mk hok
          have HKl : Hid (K ≤ 65536) := hid_mk (by omega)
          have HB2 := hid_mk hb2
          have HK2 := hid_mk hK2
          have HC2 := hid_mk hc2
          have HV2 := hid_mk (HV1.out.trans o2)
          have HO2 := hid_mk (HO1.out.trans o2)
          clear hok hlen hw2 hb2 hK2 o2 hc2
          go_wp2_with fail
          refine (read_any (HTy.out.out HO2.out (.inr rfl)) (Nat.le_refl _) HB2.out HK2.out HC2.out).mono ?_
          intro e w3 hq3
          obtain ⟨o3, gt3, gf3, hp3, rfl⟩ := rd_ok hq3 HKl.out (rd_wr HOK.out)
          rw [HN.out.1, HN.out.2.1]
          have HP3 := hid_mk (hp3.kept ((Out.refl 0 0 w3).alloc (.cells #[.int .i64 x, .slice (some ⟨gt3, 0, none⟩) nt nt, .slice (some ⟨gf3, 0, none⟩) nf nf] 25)) (Nat.zero_le _))
          have HV3 := hid_mk ((HV2.out.trans o3).alloc (.cells #[.int .i64 x, .slice (some ⟨gt3, 0, none⟩) nt nt, .slice (some ⟨gf3, 0, none⟩) nf nf] 25))
          have bA := kept0 HA.out HV3.out
          have a0 := bA.cell (i := 0) rfl
          have a1 := bA.cell (i := 1) rfl
          have a2 := bA.cell (i := 2) rfl
          have hKd : decide ((65536 : Int) < (K : Int)) = false := by have := HKl.out; simp; omega
          have hszV : p ≤ (w3.alloc (.cells #[.int .i64 x, .slice (some ⟨gt3, 0, none⟩) nt nt, .slice (some ⟨gf3, 0, none⟩) nf nf] 25)).heap.size := Nat.le_trans hpl.out HV3.out.size
          have HSm := hid_mk (same_any x x ts ts fs fs ta (some ⟨gt3, 0, none⟩) fa (some ⟨gf3, 0, none⟩) nt nt nf nf tc nt fc nf HN.out.1 HN.out.1 HN.out.2.1 HN.out.2.1 ((HT.out.kept (Lo.of_out HV3.out) (Nat.le_refl _)).up hszV) HP3.out.tx ((HF.out.kept (Lo.of_out HV3.out) (Nat.le_refl _)).up hszV) HP3.out.fn ⟨by have := HB.out.1; omega, by have := HB.out.1; omega, fun f hf => by have := HB.out.2 f hf; omega⟩)
          clear hq3 o3 hp3 bA hszV
          go_wp2_with fail
          refine HSm.out.mono ?_
          rintro e w4 ⟨⟨bb, rfl, hbb⟩, o4⟩
          have hbt : bb = true := hbb.2 rfl
          subst hbt
          have OV := hid_mk (HV3.out.trans o4)
          clear hbb o4 a0 a1 a2
          go_wp2_with fail
          have hpW : p ≤ _ := Nat.le_trans hpl.out OV.out.size
          refine (read_any (HTy.out.out (HO.out.trans OV.out) (.inr rfl)) hpW (HI.out.kept (Lo.of_out OV.out) (Nat.le_refl _)) HN.out.2.2.1 HN.out.2.2.2).mono ?_
          intro e w5 hq
          by_cases hn6 : n ≤ 65536
          · rcases hw : wholeR bs with ⟨xe, q⟩ | ⟨x2, ts2, fs2⟩
            · obtain ⟨o5, rfl⟩ := rd_err hq hn6 hw
              have HOB := hid_mk ((HO.out.trans OV.out).trans o5)
              have hx : (xe != 0) = true := by rcases whole_ends hw with c | c <;> (rw [c.1]; decide)
              have hq0 : (0 : Int) ≤ (q : Int) := by omega
              have hqn : (q : Int) ≤ (n : Int) := by have := HN.out.2.2.1; rcases whole_ends hw with c | c <;> omega
              clear hq hw o5 hn6
              have HQ := hid_mk (HOB.out.alloc (.cells #[.int .i64 0, .slice none 0 0, .slice none 0 0] 25))
              have bq := Bl.new w5 #[.int .i64 0, .slice none 0 0, .slice none 0 0] 25
              have HBq := hid_mk bq
              clear bq
              go_wp2_with (first
                | (go_at_call 10; refine (alive_any (HTy.out.out HQ.out (.inr rfl))).mono ?_; rintro e w6 ⟨rfl, o6⟩; have b6 := kept0 HBq.out o6; have y0 := b6.cell (i := 0) rfl; have y1 := b6.cell (i := 1) rfl; have y2 := b6.cell (i := 2) rfl; have HO6 := hid_mk (HQ.out.trans o6); clear o6 b6)
                | (go_at_call 16; refine (same_any (B := 0) 0 0 [] [] [] [] none none none none 0 0 0 0 0 0 0 0 rfl rfl rfl rfl (.inl rfl) (.inl rfl) (.inl rfl) (.inl rfl) ⟨by decide, by decide, by intro f hf; cases hf⟩).mono ?_; rintro e w7 ⟨⟨bb, rfl, hbb⟩, o7⟩; have hbt : bb = true := hbb.2 rfl; subst hbt; have HO7 := hid_mk (HO6.out.trans o7); clear o7 hbb))
              go_ret
              exact ⟨rfl, HO7.out⟩
            · obtain ⟨o5, gt, gf, hp5, rfl⟩ := rd_ok hq hn6 hw
              have HWR := hid_mk (wr_rd HI.out.1 hw)
              have HOB := hid_mk ((HO.out.trans OV.out).trans o5)
              have HOC := hid_mk (OV.out.trans o5)
              have HP := hid_mk (hp5.kept ((Out.refl 0 0 w5).alloc (.cells #[.int .i64 x2, .slice (some ⟨gt, 0, none⟩) ts2.length ts2.length, .slice (some ⟨gf, 0, none⟩) fs2.length fs2.length] 25)) (Nat.zero_le _))
              obtain ⟨n2, hn2⟩ : ∃ k, ts2.length = k := ⟨_, rfl⟩
              obtain ⟨m2, hm2⟩ : ∃ k, fs2.length = k := ⟨_, rfl⟩
              have hw2 := wr_ok HWR.out.1 (by rw [HWR.out.2, HN.out.2.2.1]; exact hn6)
              rw [HWR.out.2] at hw2
              have HQ := hid_mk (HOB.out.alloc (.cells #[.int .i64 x2, .slice (some ⟨gt, 0, none⟩) ts2.length ts2.length, .slice (some ⟨gf, 0, none⟩) fs2.length fs2.length] 25))
              have HWr := hid_mk (write_at (HTy.out.out HQ.out (.inr rfl)) (Nat.le_refl _) x2 ts2 fs2 (some ⟨gt, 0, none⟩) (some ⟨gf, 0, none⟩) n2 n2 m2 m2 hn2 hm2 HP.out.tx HP.out.fn (ok_mi HWR.out.1) (by rw [hw2.2]; exact HI.out.1))
              rw [hw2.1, hw2.2] at HWr
              rw [hn2, hm2] at HWr HQ ⊢
              clear hq hw o5 hp5 hn6 hn2 hm2 hw2 HP
              go_wp2_with (first
                | (go_at_call 14; refine HWr.out.mono ?_; rintro e w6 ⟨rc, K6, cap6, rfl, o6, hb6, hK6, hc6⟩; have HO6 := hid_mk (HQ.out.trans o6); have HV6 := hid_mk (HOC.out.trans (((Out.refl 0 0 w5).alloc _).trans o6)); have HB6 := hid_mk hb6; have HK6 := hid_mk hK6; clear o6 hb6 hK6 hc6)
                | (go_at_call 10; refine (alive_any (HTy.out.out HO6.out (.inr rfl))).mono ?_; rintro e w7 ⟨rfl, o7⟩; have HO7 := hid_mk (HO6.out.trans o7); have hcv := conv_bytes (c := cap6) ((HB6.out.kept (Lo.of_out o7) (Nat.le_refl _)).bytes) HK6.out; have hcb := conv_bytes (c := cap) ((HI.out.kept (Lo.of_out (HV6.out.trans o7)) (Nat.le_refl _)).bytes) HN.out.2.2.1; have hss := str_same (s := bs) (t := bs) rfl; clear o7))
              go_ret
              exact ⟨rfl, HO7.out⟩
          · obtain ⟨o5, rfl⟩ := rd_long hq (by omega)
            have HOB := hid_mk ((HO.out.trans OV.out).trans o5)
            have hqn : (0 : Int) ≤ (n : Int) := by omega
            clear hq o5 hn6
            have HQ := hid_mk (HOB.out.alloc (.cells #[.int .i64 0, .slice none 0 0, .slice none 0 0] 25))
            have bq := Bl.new w5 #[.int .i64 0, .slice none 0 0, .slice none 0 0] 25
            have HBq := hid_mk bq
            clear bq
            go_wp2_with (first
              | (go_at_call 10; refine (alive_any (HTy.out.out HQ.out (.inr rfl))).mono ?_; rintro e w6 ⟨rfl, o6⟩; have b6 := kept0 HBq.out o6; have y0 := b6.cell (i := 0) rfl; have y1 := b6.cell (i := 1) rfl; have y2 := b6.cell (i := 2) rfl; have HO6 := hid_mk (HQ.out.trans o6); clear o6 b6)
              | (go_at_call 16; refine (same_any (B := 0) 0 0 [] [] [] [] none none none none 0 0 0 0 0 0 0 0 rfl rfl rfl rfl (.inl rfl) (.inl rfl) (.inl rfl) (.inl rfl) ⟨by decide, by decide, by intro f hf; cases hf⟩).mono ?_; rintro e w7 ⟨⟨bb, rfl, hbb⟩, o7⟩; have hbt : bb = true := hbb.2 rfl; subst hbt; have HO7 := hid_mk (HO6.out.trans o7); clear o7 hbb))
            go_ret
            exact ⟨rfl, HO7.out⟩
        · have hw2 := wr_long hok (by omega)
          rw [hw2.2] at hK2
          rw [hw2.1]
          have hK0 : K = 0 := by rw [← hK2]; rfl
          subst hK0
          have OV := hid_mk (HV1.out.trans o2)
          clear hok hlen hw2 hb2 hK2 o2 hc2
          go_wp2_with fail
          have hpW : p ≤ _ := Nat.le_trans hpl.out OV.out.size
          refine (read_any (HTy.out.out (HO.out.trans OV.out) (.inr rfl)) hpW (HI.out.kept (Lo.of_out OV.out) (Nat.le_refl _)) HN.out.2.2.1 HN.out.2.2.2).mono ?_
          intro e w5 hq
          by_cases hn6 : n ≤ 65536
          · rcases hw : wholeR bs with ⟨xe, q⟩ | ⟨x2, ts2, fs2⟩
            · obtain ⟨o5, rfl⟩ := rd_err hq hn6 hw
              have HOB := hid_mk ((HO.out.trans OV.out).trans o5)
              have hx : (xe != 0) = true := by rcases whole_ends hw with c | c <;> (rw [c.1]; decide)
              have hq0 : (0 : Int) ≤ (q : Int) := by omega
              have hqn : (q : Int) ≤ (n : Int) := by have := HN.out.2.2.1; rcases whole_ends hw with c | c <;> omega
              clear hq hw o5 hn6
              have HQ := hid_mk (HOB.out.alloc (.cells #[.int .i64 0, .slice none 0 0, .slice none 0 0] 25))
              have bq := Bl.new w5 #[.int .i64 0, .slice none 0 0, .slice none 0 0] 25
              have HBq := hid_mk bq
              clear bq
              go_wp2_with (first
                | (go_at_call 10; refine (alive_any (HTy.out.out HQ.out (.inr rfl))).mono ?_; rintro e w6 ⟨rfl, o6⟩; have b6 := kept0 HBq.out o6; have y0 := b6.cell (i := 0) rfl; have y1 := b6.cell (i := 1) rfl; have y2 := b6.cell (i := 2) rfl; have HO6 := hid_mk (HQ.out.trans o6); clear o6 b6)
                | (go_at_call 16; refine (same_any (B := 0) 0 0 [] [] [] [] none none none none 0 0 0 0 0 0 0 0 rfl rfl rfl rfl (.inl rfl) (.inl rfl) (.inl rfl) (.inl rfl) ⟨by decide, by decide, by intro f hf; cases hf⟩).mono ?_; rintro e w7 ⟨⟨bb, rfl, hbb⟩, o7⟩; have hbt : bb = true := hbb.2 rfl; subst hbt; have HO7 := hid_mk (HO6.out.trans o7); clear o7 hbb))
              go_ret
              exact ⟨rfl, HO7.out⟩
            · obtain ⟨o5, gt, gf, hp5, rfl⟩ := rd_ok hq hn6 hw
              have HWR := hid_mk (wr_rd HI.out.1 hw)
              have HOB := hid_mk ((HO.out.trans OV.out).trans o5)
              have HOC := hid_mk (OV.out.trans o5)
              have HP := hid_mk (hp5.kept ((Out.refl 0 0 w5).alloc (.cells #[.int .i64 x2, .slice (some ⟨gt, 0, none⟩) ts2.length ts2.length, .slice (some ⟨gf, 0, none⟩) fs2.length fs2.length] 25)) (Nat.zero_le _))
              obtain ⟨n2, hn2⟩ : ∃ k, ts2.length = k := ⟨_, rfl⟩
              obtain ⟨m2, hm2⟩ : ∃ k, fs2.length = k := ⟨_, rfl⟩
              have hw2 := wr_ok HWR.out.1 (by rw [HWR.out.2, HN.out.2.2.1]; exact hn6)
              rw [HWR.out.2] at hw2
              have HQ := hid_mk (HOB.out.alloc (.cells #[.int .i64 x2, .slice (some ⟨gt, 0, none⟩) ts2.length ts2.length, .slice (some ⟨gf, 0, none⟩) fs2.length fs2.length] 25))
              have HWr := hid_mk (write_at (HTy.out.out HQ.out (.inr rfl)) (Nat.le_refl _) x2 ts2 fs2 (some ⟨gt, 0, none⟩) (some ⟨gf, 0, none⟩) n2 n2 m2 m2 hn2 hm2 HP.out.tx HP.out.fn (ok_mi HWR.out.1) (by rw [hw2.2]; exact HI.out.1))
              rw [hw2.1, hw2.2] at HWr
              rw [hn2, hm2] at HWr HQ ⊢
              clear hq hw o5 hp5 hn6 hn2 hm2 hw2 HP
              go_wp2_with (first
                | (go_at_call 14; refine HWr.out.mono ?_; rintro e w6 ⟨rc, K6, cap6, rfl, o6, hb6, hK6, hc6⟩; have HO6 := hid_mk (HQ.out.trans o6); have HV6 := hid_mk (HOC.out.trans (((Out.refl 0 0 w5).alloc _).trans o6)); have HB6 := hid_mk hb6; have HK6 := hid_mk hK6; clear o6 hb6 hK6 hc6)
                | (go_at_call 10; refine (alive_any (HTy.out.out HO6.out (.inr rfl))).mono ?_; rintro e w7 ⟨rfl, o7⟩; have HO7 := hid_mk (HO6.out.trans o7); have hcv := conv_bytes (c := cap6) ((HB6.out.kept (Lo.of_out o7) (Nat.le_refl _)).bytes) HK6.out; have hcb := conv_bytes (c := cap) ((HI.out.kept (Lo.of_out (HV6.out.trans o7)) (Nat.le_refl _)).bytes) HN.out.2.2.1; have hss := str_same (s := bs) (t := bs) rfl; clear o7))
              go_ret
              exact ⟨rfl, HO7.out⟩
          · obtain ⟨o5, rfl⟩ := rd_long hq (by omega)
            have HOB := hid_mk ((HO.out.trans OV.out).trans o5)
            have hqn : (0 : Int) ≤ (n : Int) := by omega
            clear hq o5 hn6
            have HQ := hid_mk (HOB.out.alloc (.cells #[.int .i64 0, .slice none 0 0, .slice none 0 0] 25))
            have bq := Bl.new w5 #[.int .i64 0, .slice none 0 0, .slice none 0 0] 25
            have HBq := hid_mk bq
            clear bq
            go_wp2_with (first
              | (go_at_call 10; refine (alive_any (HTy.out.out HQ.out (.inr rfl))).mono ?_; rintro e w6 ⟨rfl, o6⟩; have b6 := kept0 HBq.out o6; have y0 := b6.cell (i := 0) rfl; have y1 := b6.cell (i := 1) rfl; have y2 := b6.cell (i := 2) rfl; have HO6 := hid_mk (HQ.out.trans o6); clear o6 b6)
              | (go_at_call 16; refine (same_any (B := 0) 0 0 [] [] [] [] none none none none 0 0 0 0 0 0 0 0 rfl rfl rfl rfl (.inl rfl) (.inl rfl) (.inl rfl) (.inl rfl) ⟨by decide, by decide, by intro f hf; cases hf⟩).mono ?_; rintro e w7 ⟨⟨bb, rfl, hbb⟩, o7⟩; have hbt : bb = true := hbb.2 rfl; subst hbt; have HO7 := hid_mk (HO6.out.trans o7); clear o7 hbb))
            go_ret
            exact ⟨rfl, HO7.out⟩
      · have hw2 := wr_form hok
        rw [hw2.2] at hK2
        rw [hw2.1]
        have hK0 : K = 0 := by rw [← hK2]; rfl
        subst hK0
        have OV := hid_mk (HV1.out.trans o2)
        clear hok hw2 hb2 hK2 o2 hc2
        go_wp2_with fail
        have hpW : p ≤ _ := Nat.le_trans hpl.out OV.out.size
        refine (read_any (HTy.out.out (HO.out.trans OV.out) (.inr rfl)) hpW (HI.out.kept (Lo.of_out OV.out) (Nat.le_refl _)) HN.out.2.2.1 HN.out.2.2.2).mono ?_
        intro e w5 hq
        by_cases hn6 : n ≤ 65536
        · rcases hw : wholeR bs with ⟨xe, q⟩ | ⟨x2, ts2, fs2⟩
          · obtain ⟨o5, rfl⟩ := rd_err hq hn6 hw
            have HOB := hid_mk ((HO.out.trans OV.out).trans o5)
            have hx : (xe != 0) = true := by rcases whole_ends hw with c | c <;> (rw [c.1]; decide)
            have hq0 : (0 : Int) ≤ (q : Int) := by omega
            have hqn : (q : Int) ≤ (n : Int) := by have := HN.out.2.2.1; rcases whole_ends hw with c | c <;> omega
            clear hq hw o5 hn6
            have HQ := hid_mk (HOB.out.alloc (.cells #[.int .i64 0, .slice none 0 0, .slice none 0 0] 25))
            have bq := Bl.new w5 #[.int .i64 0, .slice none 0 0, .slice none 0 0] 25
            have HBq := hid_mk bq
            clear bq
            go_wp2_with (first
              | (go_at_call 10; refine (alive_any (HTy.out.out HQ.out (.inr rfl))).mono ?_; rintro e w6 ⟨rfl, o6⟩; have b6 := kept0 HBq.out o6; have y0 := b6.cell (i := 0) rfl; have y1 := b6.cell (i := 1) rfl; have y2 := b6.cell (i := 2) rfl; have HO6 := hid_mk (HQ.out.trans o6); clear o6 b6)
              | (go_at_call 16; refine (same_any (B := 0) 0 0 [] [] [] [] none none none none 0 0 0 0 0 0 0 0 rfl rfl rfl rfl (.inl rfl) (.inl rfl) (.inl rfl) (.inl rfl) ⟨by decide, by decide, by intro f hf; cases hf⟩).mono ?_; rintro e w7 ⟨⟨bb, rfl, hbb⟩, o7⟩; have hbt : bb = true := hbb.2 rfl; subst hbt; have HO7 := hid_mk (HO6.out.trans o7); clear o7 hbb))
            go_ret
            exact ⟨rfl, HO7.out⟩
          · obtain ⟨o5, gt, gf, hp5, rfl⟩ := rd_ok hq hn6 hw
            have HWR := hid_mk (wr_rd HI.out.1 hw)
            have HOB := hid_mk ((HO.out.trans OV.out).trans o5)
            have HOC := hid_mk (OV.out.trans o5)
            have HP := hid_mk (hp5.kept ((Out.refl 0 0 w5).alloc (.cells #[.int .i64 x2, .slice (some ⟨gt, 0, none⟩) ts2.length ts2.length, .slice (some ⟨gf, 0, none⟩) fs2.length fs2.length] 25)) (Nat.zero_le _))
            obtain ⟨n2, hn2⟩ : ∃ k, ts2.length = k := ⟨_, rfl⟩
            obtain ⟨m2, hm2⟩ : ∃ k, fs2.length = k := ⟨_, rfl⟩
            have hw2 := wr_ok HWR.out.1 (by rw [HWR.out.2, HN.out.2.2.1]; exact hn6)
            rw [HWR.out.2] at hw2
            have HQ := hid_mk (HOB.out.alloc (.cells #[.int .i64 x2, .slice (some ⟨gt, 0, none⟩) ts2.length ts2.length, .slice (some ⟨gf, 0, none⟩) fs2.length fs2.length] 25))
            have HWr := hid_mk (write_at (HTy.out.out HQ.out (.inr rfl)) (Nat.le_refl _) x2 ts2 fs2 (some ⟨gt, 0, none⟩) (some ⟨gf, 0, none⟩) n2 n2 m2 m2 hn2 hm2 HP.out.tx HP.out.fn (ok_mi HWR.out.1) (by rw [hw2.2]; exact HI.out.1))
            rw [hw2.1, hw2.2] at HWr
            rw [hn2, hm2] at HWr HQ ⊢
            clear hq hw o5 hp5 hn6 hn2 hm2 hw2 HP
            go_wp2_with (first
              | (go_at_call 14; refine HWr.out.mono ?_; rintro e w6 ⟨rc, K6, cap6, rfl, o6, hb6, hK6, hc6⟩; have HO6 := hid_mk (HQ.out.trans o6); have HV6 := hid_mk (HOC.out.trans (((Out.refl 0 0 w5).alloc _).trans o6)); have HB6 := hid_mk hb6; have HK6 := hid_mk hK6; clear o6 hb6 hK6 hc6)
              | (go_at_call 10; refine (alive_any (HTy.out.out HO6.out (.inr rfl))).mono ?_; rintro e w7 ⟨rfl, o7⟩; have HO7 := hid_mk (HO6.out.trans o7); have hcv := conv_bytes (c := cap6) ((HB6.out.kept (Lo.of_out o7) (Nat.le_refl _)).bytes) HK6.out; have hcb := conv_bytes (c := cap) ((HI.out.kept (Lo.of_out (HV6.out.trans o7)) (Nat.le_refl _)).bytes) HN.out.2.2.1; have hss := str_same (s := bs) (t := bs) rfl; clear o7))
            go_ret
            exact ⟨rfl, HO7.out⟩
        · obtain ⟨o5, rfl⟩ := rd_long hq (by omega)
          have HOB := hid_mk ((HO.out.trans OV.out).trans o5)
          have hqn : (0 : Int) ≤ (n : Int) := by omega
          clear hq o5 hn6
          have HQ := hid_mk (HOB.out.alloc (.cells #[.int .i64 0, .slice none 0 0, .slice none 0 0] 25))
          have bq := Bl.new w5 #[.int .i64 0, .slice none 0 0, .slice none 0 0] 25
          have HBq := hid_mk bq
          clear bq
          go_wp2_with (first
            | (go_at_call 10; refine (alive_any (HTy.out.out HQ.out (.inr rfl))).mono ?_; rintro e w6 ⟨rfl, o6⟩; have b6 := kept0 HBq.out o6; have y0 := b6.cell (i := 0) rfl; have y1 := b6.cell (i := 1) rfl; have y2 := b6.cell (i := 2) rfl; have HO6 := hid_mk (HQ.out.trans o6); clear o6 b6)
            | (go_at_call 16; refine (same_any (B := 0) 0 0 [] [] [] [] none none none none 0 0 0 0 0 0 0 0 rfl rfl rfl rfl (.inl rfl) (.inl rfl) (.inl rfl) (.inl rfl) ⟨by decide, by decide, by intro f hf; cases hf⟩).mono ?_; rintro e w7 ⟨⟨bb, rfl, hbb⟩, o7⟩; have hbt : bb = true := hbb.2 rfl; subst hbt; have HO7 := hid_mk (HO6.out.trans o7); clear o7 hbb))
          go_ret
          exact ⟨rfl, HO7.out⟩
end Go.Proofs.YtnekepeojadhaaaDoor
