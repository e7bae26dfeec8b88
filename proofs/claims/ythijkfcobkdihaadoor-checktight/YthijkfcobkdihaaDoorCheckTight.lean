/- the law CheckTight: its walk -/
import Derived.Test.YthijkfcobkdihaaDoorTwa
import Derived.Test.YthijkfcobkdihaaDoorCards
import Derived.Test.YthijkfcobkdihaaDoorUta
namespace Go.Proofs.YthijkfcobkdihaaDoor
open Go.RowKit
set_option linter.unusedVariables false
set_option linter.unusedSimpArgs false

theorem up_i {i n : Nat} (h : i < n) (hn : n ≤ 4096) : ∃ i1 : Nat, i + 1 = i1 ∧ wrap64 ((i : Int) + 1) = (i1 : Int) := ⟨i + 1, rfl, by unfold wrap64; omega⟩
theorem sl_v {L t s : Int} (h : L + t = s) (h1 : 0 ≤ L ∧ L ≤ 64) (h2 : 0 ≤ t ∧ t ≤ 64) : IntKind.i64.wrap (L + t) = s := by
  simp [IntKind.wrap, IntKind.signed, IntKind.bits]; omega
theorem gtd {a b : Int} (h : a < b) : decide (a < b) = true := by simpa using h
theorem gef {a b : Int} (h : ¬ a < b) : decide (a < b) = false := by simpa using h
theorem led {a b : Int} (h : a ≤ b) : decide (a ≤ b) = true := by simpa using h
theorem lef {a b : Int} (h : ¬ a ≤ b) : decide (a ≤ b) = false := by simpa using h
theorem ms_k {i i1 n : Nat} (h : i < n) (e : i + 1 = i1) : n - (intOf (.int .i64 (i1 : Int))).toNat < n - (intOf (.int .i64 (i : Int))).toNat := by simp [intOf]; omega
theorem ne_of {q g : Nat} (h : q < g) : q ≠ g ∧ g ≠ q := by omega
theorem ft_no {w w' : World} {nt nf : Nat} {fs : List (Int × Int × Int × List (Int × Int))} {e : Ending} (h : FtQ w nt nf fs e w') : ∃ b, e = .returned (.bool b) ∧ (b = true → (nt : Int) + (nf : Int) ≤ 300000 ∧ ∀ f ∈ fs, (f.2.2.2.length : Int) ≤ 300000) ∧ Out 0 0 w w' := by
  obtain ⟨⟨b, h1, h2⟩, h3⟩ := h
  exact ⟨b, h1, h2, h3⟩
set_option maxRecDepth 100000 in
set_option maxHeartbeats 8000000 in
theorem tight_any {w : World} (hT : Ty w) (x : Int) (ts : List (List Int)) (fs : List (Int × Int × Int × List (Int × Int))) (ta fa : Option Addr) (nt tc nf fc : Nat) (hnt : ts.length = nt) (hnf : fs.length = nf) (hts : TxIn w w.heap.size ta ts) (hfs : FnIn w w.heap.size fa fs) (hM : ∀ f ∈ fs, MI f.2.2.2) (h1 : Lim nt) (h2 : Lim nf) (h3 : ∀ t ∈ ts, Lim t.length) (h4 : ∀ f ∈ fs, Lim f.2.2.2.length) :
    Calls Tryd.prog 7 #[.agg #[.int .i64 x, .slice ta nt tc, .slice fa nf fc]] w fun e w' => e = .returned (.bool true) ∧ Out 0 0 w w' := by
  obtain ⟨b, hb⟩ : ∃ b, w.heap.size = b := ⟨_, rfl⟩
  obtain ⟨V, hV⟩ : ∃ V, w.alloc (.cells #[.int .i64 x, .slice ta nt tc, .slice fa nf fc] 35) = V := ⟨_, rfl⟩
  have oV : Out 0 0 w V := by rw [← hV]; exact (Out.refl 0 0 w).alloc _
  have b0 : Bl V b #[.int .i64 x, .slice ta nt tc, .slice fa nf fc] 35 := by rw [← hV, ← hb]; exact Bl.new _ _ _
  have k0 := b0.cell (i := 0) rfl
  have k1 := b0.cell (i := 1) rfl
  have k2 := b0.cell (i := 2) rfl
  have HB0 := hid_mk b0
  have HO := hid_mk oV
  have HT := hid_mk hT
  have HH := hid_mk (And.intro hts (And.intro hfs (And.intro hnt (And.intro hnf hM))))
  have HFt := hid_mk (fits_any (w := V) (B := w.heap.size) x ts fs ta fa nt nf tc fc hnt hnf (hts.kept (Lo.of_out oV) (Nat.le_refl _)) (hfs.kept (Lo.of_out oV) (Nat.le_refl _)) h1 h2 h3 h4)
  clear hT hnt hnf hts hfs hM h1 h2 h3 h4 oV b0
  go_enter Tryd.func7, Tryd.ntmps7
  go_wp2_with fail
  (try rw [hV])
  (try rw [hb])
  clear hV hb
  refine HFt.out.mono ?_
  intro e w1 hq
  obtain ⟨bb, rfl, hbb, o1⟩ := ft_no hq
  clear hq
  cases bb
  · have HO1 := hid_mk (HO.out.trans o1)
    clear o1 hbb k0 k1 k2
    go_wp2_with (go_at_call 15; refine (alive_any (HT.out.out HO1.out (.inr rfl))).mono ?_; rintro e w2 ⟨rfl, o2⟩; replace HO1 := hid_mk (HO1.out.trans o2); clear o2)
    go_ret
    exact ⟨rfl, HO1.out⟩
  · have HO1 := hid_mk (HO.out.trans o1)
    have HB1 := hid_mk (HB0.out.kept o1 (.inr (Nat.zero_le _)))
    replace k0 := o1.cell k0 (.inr (Nat.zero_le _))
    replace k1 := o1.cell k1 (.inr (Nat.zero_le _))
    replace k2 := o1.cell k2 (.inr (Nat.zero_le _))
    have HBig := hid_mk (hbb rfl)
    have HCk := hid_mk (check_any (w := w1) (HT.out.out HO1.out (.inr rfl)) (B := w.heap.size) HO1.out.size x ts fs ta fa nt tc nf fc HH.out.2.2.1 HH.out.2.2.2.1 (HH.out.1.kept (Lo.of_out HO1.out) (Nat.le_refl _)) (HH.out.2.1.kept (Lo.of_out HO1.out) (Nat.le_refl _)) HH.out.2.2.2.2)
    clear o1 hbb HFt HB0 HO
    go_wp2_with fail
    refine HCk.out.mono ?_
    rintro e w2 ⟨o2, ⟨S, Ds, sv, dv, dgs, z1, rfl, z2⟩ | ⟨er, f, i, z1, rfl⟩⟩
    · obtain ⟨hokP, hSl, hDl, hfn⟩ := ck_fn z1
      have hnf := HH.out.2.2.2.1
      have hnf1 : 0 < nf := by have := hokP.2.2.2.1.1; simp only [] at this; omega
      have hnf64 : nf ≤ 64 := by have := hokP.2.2.2.1.2; simp only [] at this; omega
      rw [hnf] at hSl hDl hfn
      obtain ⟨qs, sc, qd, dc, rfl, rfl, hca⟩ := ck_all z2 hSl hDl hnf1
      have HO2 := hid_mk (HO1.out.trans o2)
      obtain ⟨f0, hf0⟩ : ∃ f, fs[0]? = some f := ⟨_, List.getElem?_eq_getElem (by omega)⟩
      obtain ⟨qf, off, _, _, rfl, _⟩ := fn_cells HH.out.2.1 hf0
      have hTF : TF w2 fs nf qs qd qf off := fun k f hf => by
        obtain ⟨D, hD, hK, hS⟩ := hfn k f hf
        obtain ⟨dg, c1, c2, c3⟩ := hca k _ D hS hD
        obtain ⟨q2, o2', pj, cj, e, hq2, _, f1, _, f3, f4⟩ := fn_cells (HH.out.2.1.kept (Lo.of_out HO2.out) (Nat.le_refl _)) hf
        cases e
        exact ⟨D, dg, pj, cj, hK, c1, by rw [← hK.1.1]; exact c2, c3, f1, f3, f4.low2 HO2.out.size⟩
      obtain ⟨g7, hg7⟩ : ∃ g, w2.heap.size = g := ⟨_, rfl⟩
      obtain ⟨W, hW⟩ : ∃ W, w2.alloc (.cells #[.slice (some ⟨qs, 0, none⟩) nf sc, .slice (some ⟨qd, 0, none⟩) nf dc] 53) = W := ⟨_, rfl⟩
      have oW : Out 0 0 w2 W := by rw [← hW]; exact (Out.refl 0 0 w2).alloc _
      have bW : Bl W g7 #[.slice (some ⟨qs, 0, none⟩) nf sc, .slice (some ⟨qd, 0, none⟩) nf dc] 53 := by rw [← hW, ← hg7]; exact Bl.new _ _ _
      have o12 := o2.trans oW
      have HC : Hid (Bl W b #[.int .i64 x, .slice ta nt tc, .slice (some ⟨qf, off, none⟩) nf fc] 35 ∧ Bl W g7 #[.slice (some ⟨qs, 0, none⟩) nf sc, .slice (some ⟨qd, 0, none⟩) nf dc] 53 ∧ TF W fs nf qs qd qf off) := hid_mk ⟨HB1.out.kept o12 (.inr (Nat.zero_le _)), bW, hTF.kept oW⟩
      have HL := hid_mk (And.intro hnf (And.intro hnf1 hnf64))
      have HOW := hid_mk (HO2.out.trans oW)
      have e1 : ((nf : Int) != (nf : Int)) = false := by simp
      clear z1 z2 hokP hSl hDl hfn hnf hca hf0 hTF o2 oW bW o12 k0 k1 k2 HB1 HCk hnf1 hnf64
      go_wp2_with fail
      (try rw [hW])
      (try rw [hg7])
      clear hW hg7
      refine (alive_any (HT.out.out HOW.out (.inr rfl))).mono ?_
      rintro e w3 ⟨rfl, o3⟩
      have m0 := (HC.out.2.1.kept o3 (.inr (Nat.zero_le _))).cell (i := 0) rfl
      have m1 := (HC.out.2.1.kept o3 (.inr (Nat.zero_le _))).cell (i := 1) rfl
      have p2 := (HC.out.1.kept o3 (.inr (Nat.zero_le _))).cell (i := 2) rfl
      have HO3 := hid_mk o3
      clear o3
      go_wp2_with fail
      clear m0 m1 p2 e1
      go_loopw [7] (fun kv wr => ∃ k : Nat, kv = .int .i64 k ∧ k ≤ nf ∧ Out 0 0 W wr) (fun kv _ => nf - (intOf kv).toNat)
      case atStart => exact ⟨0, rfl, Nat.zero_le _, HO3.out⟩
      case round =>
        obtain ⟨k, rfl, hk, ho⟩ := hrel
        obtain ⟨W1, hW1⟩ : ∃ W1, W1 = wr := ⟨_, rfl⟩
        subst hW1
        have p2 := (HC.out.1.kept ho (.inr (Nat.zero_le _))).cell (i := 2) rfl
        have HOR := hid_mk ho
        by_cases hgo : k < nf
        · obtain ⟨l1, l2⟩ := lt_dec hgo
          have l3 : (k : Int) < (nf : Int) := by omega
          have hnf := HL.out.1
          obtain ⟨f, hf⟩ : ∃ f, fs[k]? = some f := ⟨_, List.getElem?_eq_getElem (by omega)⟩
          obtain ⟨D, dg, pj, cj, hK, c1, c2, c3, c4, c5, c6⟩ := HC.out.2.2.kept ho k f hf
          obtain ⟨k1, hk1, hkw⟩ := up_i hgo (by have := HL.out; omega)
          have m0 := (HC.out.2.1.kept ho (.inr (Nat.zero_le _))).cell (i := 0) rfl
          have m1 := (HC.out.2.1.kept ho (.inr (Nat.zero_le _))).cell (i := 1) rfl
          obtain ⟨n, hn⟩ : ∃ n, f.2.2.2.length = n := ⟨_, rfl⟩
          rw [hn] at c2 c5
          obtain ⟨L, hL⟩ : ∃ L, f.2.1 = L := ⟨_, rfl⟩
          obtain ⟨t, ht⟩ : ∃ t, mxL D = t := ⟨_, rfl⟩
          obtain ⟨sv, hsv⟩ : ∃ s, L + t = s := ⟨_, rfl⟩
          rw [hL, ht, hsv] at c1
          rw [hL] at c4
          have hDn : D.length = n := by rw [hK.1.1, hn]
          have hn0 : 0 < n := by have := (List.getElem?_eq_some_iff.1 hK.1.2.2.1).1; omega
          have hn4 : n ≤ 4096 := by have := hK.2.2.1; omega
          have dj := iv_cell c3 hK.1.2.2.1
          have HKF := hid_mk hK
          have HSL : Hid (IntKind.i64.wrap (L + t) = sv) := hid_mk (sl_v hsv (by have := hK.2.2.2; omega) (by have := hK.mx; omega))
          have HIN := hid_mk c6
          have HBD := hid_mk c3
          have HCE := hid_mk (And.intro c1 (And.intro c4 (And.intro p2 (And.intro m0 (And.intro hk1 hgo)))))
          have HKW : Hid (wrap64 ((k : Int) + 1) = (k1 : Int)) := hid_mk hkw
          have HNN := hid_mk (And.intro hn (And.intro hDn (And.intro hn0 (And.intro hn4 ht))))
          have hmk := run_make_row' (P := Tryd.prog) 56 4 (.bool false) 1 Tryd.underlying56 (by kernel_rfl) rfl .i64 .i64 n (by omega) (by omega)
          rw [mkb] at hmk
          obtain ⟨g8, hg8⟩ : ∃ g, W1.heap.size = g := ⟨_, rfl⟩
          obtain ⟨V8, hV8⟩ : ∃ V, W1.alloc (.cells (bls (List.replicate n false)).toArray 4) = V := ⟨_, rfl⟩
          have b8 : Bl V8 g8 (bls (List.replicate n false)).toArray 4 := by rw [← hV8, ← hg8]; exact Bl.new _ _ _
          have o8 : Out 0 0 W1 V8 := by rw [← hV8]; exact (Out.refl 0 0 W1).alloc _
          have c80 := b8.cell (i := 0) (bls_at (by rw [List.getElem?_replicate, if_pos hn0]))
          have z80 := b8.frozen 0
          have HG8 := hid_mk hg8
          have HB8 := hid_mk b8
          have HO8 := hid_mk o8
          have e1 : ((n : Int) != (n : Int)) = false := by simp
          have e2 : ((n : Int) == 0) = false := by simp; omega
          have e3 : (0 : Int) < (n : Int) := by omega
          clear hk hgo hnf hf hK c1 c3 c4 c6 hkw hk1 hL ht hsv hDn hn b8 o8 ho m0 hn4 hn0
          go_wp2_with fail
          (try rw [hV8])
          (try rw [hg8])
          clear hmk hV8 hg8 e1 e2 dj c80 z80
          go_loopw [11, 12] (fun tv iv wz => ∃ (i : Nat) (M : List Bool) (t0 : Int), iv = .int .i64 i ∧ i ≤ n ∧ tv = .int .i64 t0 ∧ mxL (D.take i) = t0 ∧ MS f.2.2.2 D i M ∧ Bl wz g8 (bls M).toArray 4 ∧ Out 0 0 W1 wz) (fun _ iv _ => n - (intOf iv).toNat)
          case atStart => exact ⟨0, _, 0, rfl, Nat.zero_le _, rfl, by simp [mxL], MS.start (by have := HNN.out; omega) HKF.out.1.2.2.1, by rw [HNN.out.1, ← bls_set]; exact HB8.out.set 0 _, HO8.out.setCell (.inr (by have := HG8.out; show W1.heap.size ≤ g8; omega)) _⟩
          case round =>
            obtain ⟨i, M, t0, rfl, hi, rfl, ht0, hms, hbM, hoz⟩ := hrel
            have HMS := hid_mk hms
            have HBM := hid_mk hbM
            have HOZ := hid_mk hoz
            have HT0 := hid_mk ht0
            by_cases hin : i < n
            · obtain ⟨l1, l2⟩ := lt_dec hin
              have l4 : (i : Int) < (n : Int) := by omega
              obtain ⟨i1, hi1, hiw⟩ := up_i hin HNN.out.2.2.2.1
              obtain ⟨d, hd⟩ : ∃ d, D[i]? = some d := ⟨_, List.getElem?_eq_getElem (by have := HNN.out; omega)⟩
              have dj := iv_cell (HBD.out.kept hoz (.inr (Nat.zero_le _))) hd
              have HIW := hid_mk hiw
              have HD := hid_mk (And.intro hd (And.intro hin hi1))
              clear hms hbM ht0 hi hiw
              by_cases hd0 : d < 0
              · have q1 := gtd hd0
                have HD0 := hid_mk hd0
                clear hd0 hoz hd hin hi1
                go_wp2
                exact ⟨⟨i1, M, t0, by rw [HIW.out], by have := HD.out; omega, rfl, by rw [← HD.out.2.2, top_skip HD.out.1 HD0.out]; exact HT0.out, by rw [← HD.out.2.2]; exact HMS.out.skip HD.out.1 HD0.out, HBM.out, HOZ.out⟩, by rw [HIW.out]; exact ms_k HD.out.2.1 HD.out.2.2⟩
              · have q1 := gef hd0
                obtain ⟨⟨op, a⟩, hx⟩ : ∃ y, f.2.2.2[i]? = some y := ⟨_, List.getElem?_eq_getElem (by have := HNN.out; omega)⟩
                obtain ⟨s1, s2, s3⟩ := HMS.out.way HKF.out hx hd (by omega)
                have hOk := HKF.out.2.1 _ (List.mem_of_getElem? hx)
                obtain ⟨qc, oc, rfl, hqc, x0, x1⟩ := in_cells (HIN.out.kept (C := W1.heap.size) (Lo.of_out hoz) (Nat.le_refl _)) hx
                obtain ⟨g1', g2'⟩ := ne_of (show qc < g8 by have := HG8.out; omega)
                have HEf := hid_mk (fun w' (z1 : FnIn w' w.heap.size (some ⟨qf, off, none⟩) fs) (z2 : w.heap.size ≤ w'.heap.size) => effect_any (w := w') (B := w.heap.size) x ta nt tc (some ⟨qf, off, none⟩) nf fc hOk z1 HH.out.2.2.2.1 z2)
                generalize tkV fs (op, a) = tkk at *
                generalize ptV op = ptt at *
                have p0 := (HC.out.1.kept (HOR.out.trans hoz) (.inr (Nat.zero_le _))).cell (i := 0) rfl
                have p1 := (HC.out.1.kept (HOR.out.trans hoz) (.inr (Nat.zero_le _))).cell (i := 1) rfl
                have p2 := (HC.out.1.kept (HOR.out.trans hoz) (.inr (Nat.zero_le _))).cell (i := 2) rfl
                have HFS := hid_mk ((HH.out.2.1).kept (C := w.heap.size) (Lo.of_out (HOW.out.trans (HOR.out.trans hoz))) (Nat.le_refl _))
                have HSZ := hid_mk (HOW.out.trans (HOR.out.trans hoz)).size
                have hiw := HIW.out
                clear hd0 hd hin hi1 hx hOk hqc hoz
                rcases hgb : goB op with _ | _
                · by_cases h14 : op = 14
                  · have hjb : juB op = true := by rw [h14]; rfl
                    have n14 : (op == 14) = true := by simpa using h14
                    have n15 : (op == 15) = false := by simp; omega
                    clear h14
                    by_cases htp : t0 < d
                    · have q2 := gtd htp
                      have HTP : Hid (mxL (D.take i) < d) := hid_mk (by rw [HT0.out]; exact htp)
                      clear htp
                      obtain ⟨aj, haj⟩ : ∃ aj : Nat, a = (aj : Int) := ⟨a.toNat, by have := s3 hjb; omega⟩
                      subst haj
                      have u1 : decide ((0 : Int) ≤ (aj : Int)) = true := by simp
                      obtain ⟨u2, u3⟩ := lt_dec (show aj < n by have := s3 hjb; have := HNN.out.1; omega)
                      have u4 : (aj : Int) < (n : Int) := by simpa using u2
                      obtain ⟨b2, hMa⟩ : ∃ b, M[aj]? = some b := ⟨_, List.getElem?_eq_getElem (by have := HMS.out.1; have := s3 hjb; omega)⟩
                      have HS1 : Hid (MS f.2.2.2 D i1 (M.set aj true)) := hid_mk (by have := s1; rw [HD.out.2.2] at this; simpa [mk1, mk2, hgb, hjb] using this)
                      clear s1 s2 s3
                      go_wp2_with fail
                      refine wp_region_held_drew (S := fun w' => w'.cell? ⟨b, 0, none⟩ = some (.int .i64 x) ∧ w'.cell? ⟨b, 1, none⟩ = some (.slice ta nt tc) ∧ w'.cell? ⟨b, 2, none⟩ = some (.slice (some ⟨qf, off, none⟩) nf fc) ∧ w'.cell? ⟨qc, oc + i * 2, none⟩ = some (.int .i64 op) ∧ w'.cell? ⟨qc, oc + i * 2 + 1, none⟩ = some (.int .i64 (aj : Int))) (by kernel_rfl) ?hS1 (fun hHeld => ?rest1)
                      case hS1 => exact ⟨p0, p1, p2, x0, x1⟩
                      refine tk 0 ?_
                      refine tk 1 ?_
                      refine tk 2 ?_
                      refine tk 3 ?_
                      refine tk 4 ?_
                      refine wpAnyH_ready (rs := [5]) (by kernel_rfl) (by simp) ?_
                      refine AllReadyH.cons rfl (fun KK hK => ?_) AllReadyH.nil
                      simp only [xa, xb, xc]
                      go_simp
                      refine (HEf.out _ (HFS.out.kept (C := w.heap.size) (Lo.of_out ((Out.refl 0 0 wr).drew)) (Nat.le_refl _)) HSZ.out).mono ?_
                      rintro e w9 ⟨he, o8⟩
                      rw [hgb] at he
                      subst he
                      have o9 : Out 0 0 wr w9 := ((Out.refl 0 0 wr).drew).trans o8
                      clear o8
                      refine hK.out _ _ ?hS7 (fun hHeld2 => ?rest7)
                      case hS7 => exact ⟨o9.cell p0 (.inr (Nat.zero_le _)), o9.cell p1 (.inr (Nat.zero_le _)), o9.cell p2 (.inr (Nat.zero_le _)), o9.cell x0 (.inr (Nat.zero_le _)), o9.cell x1 (.inr (Nat.zero_le _))⟩
                      clear hK KK
                      (try clear hHeld)
                      have hHeld := hHeld2
                      clear hHeld2
                      (try simp only [Act.put, xa, xb, xc, xd, xe, xf])
                      refine tk 6 ?_
                      refine tk 7 ?_
                      refine tk 8 ?_
                      refine tk 9 ?_
                      refine tk 10 ?_
                      refine tk 11 ?_
                      refine tk 12 ?_
                      refine wpAnyH_done (by kernel_rfl) ?_ _
                      clear hHeld
                      replace x0 := o9.cell x0 (.inr (Nat.zero_le _))
                      replace x1 := o9.cell x1 (.inr (Nat.zero_le _))
                      have B9 := HBM.out.kept o9 (.inr (Nat.zero_le _))
                      have v1 := B9.cell (bls_at hMa)
                      have v2 := B9.frozen aj
                      clear hMa
                      have HB9 := hid_mk B9
                      have HO9 := hid_mk (HOZ.out.trans o9)
                      clear B9 o9 p0 p1 HEf HFS
                      go_wp2
                      exact ⟨⟨i1, M.set aj true, d, by rw [HIW.out], by have := HD.out; omega, rfl, by rw [← HD.out.2.2, top_new HD.out.1 HTP.out], HS1.out, by rw [← bls_set]; exact HB9.out.set _ _, HO9.out.setCell (.inr (by have := HG8.out; show W1.heap.size ≤ g8; omega)) _⟩, by rw [HIW.out]; exact ms_k HD.out.2.1 HD.out.2.2⟩
                    · have q2 := gef htp
                      have HTP : Hid (d ≤ mxL (D.take i)) := hid_mk (by rw [HT0.out]; exact Int.not_lt.1 htp)
                      clear htp
                      obtain ⟨aj, haj⟩ : ∃ aj : Nat, a = (aj : Int) := ⟨a.toNat, by have := s3 hjb; omega⟩
                      subst haj
                      have u1 : decide ((0 : Int) ≤ (aj : Int)) = true := by simp
                      obtain ⟨u2, u3⟩ := lt_dec (show aj < n by have := s3 hjb; have := HNN.out.1; omega)
                      have u4 : (aj : Int) < (n : Int) := by simpa using u2
                      obtain ⟨b2, hMa⟩ : ∃ b, M[aj]? = some b := ⟨_, List.getElem?_eq_getElem (by have := HMS.out.1; have := s3 hjb; omega)⟩
                      have HS1 : Hid (MS f.2.2.2 D i1 (M.set aj true)) := hid_mk (by have := s1; rw [HD.out.2.2] at this; simpa [mk1, mk2, hgb, hjb] using this)
                      clear s1 s2 s3
                      go_wp2_with fail
                      refine wp_region_held_drew (S := fun w' => w'.cell? ⟨b, 0, none⟩ = some (.int .i64 x) ∧ w'.cell? ⟨b, 1, none⟩ = some (.slice ta nt tc) ∧ w'.cell? ⟨b, 2, none⟩ = some (.slice (some ⟨qf, off, none⟩) nf fc) ∧ w'.cell? ⟨qc, oc + i * 2, none⟩ = some (.int .i64 op) ∧ w'.cell? ⟨qc, oc + i * 2 + 1, none⟩ = some (.int .i64 (aj : Int))) (by kernel_rfl) ?hS15 (fun hHeld => ?rest15)
                      case hS15 => exact ⟨p0, p1, p2, x0, x1⟩
                      refine tk 0 ?_
                      refine tk 1 ?_
                      refine tk 2 ?_
                      refine tk 3 ?_
                      refine tk 4 ?_
                      refine wpAnyH_ready (rs := [5]) (by kernel_rfl) (by simp) ?_
                      refine AllReadyH.cons rfl (fun KK hK => ?_) AllReadyH.nil
                      simp only [xa, xb, xc]
                      go_simp
                      refine (HEf.out _ (HFS.out.kept (C := w.heap.size) (Lo.of_out ((Out.refl 0 0 wr).drew)) (Nat.le_refl _)) HSZ.out).mono ?_
                      rintro e w9 ⟨he, o8⟩
                      rw [hgb] at he
                      subst he
                      have o9 : Out 0 0 wr w9 := ((Out.refl 0 0 wr).drew).trans o8
                      clear o8
                      refine hK.out _ _ ?hS21 (fun hHeld2 => ?rest21)
                      case hS21 => exact ⟨o9.cell p0 (.inr (Nat.zero_le _)), o9.cell p1 (.inr (Nat.zero_le _)), o9.cell p2 (.inr (Nat.zero_le _)), o9.cell x0 (.inr (Nat.zero_le _)), o9.cell x1 (.inr (Nat.zero_le _))⟩
                      clear hK KK
                      (try clear hHeld)
                      have hHeld := hHeld2
                      clear hHeld2
                      (try simp only [Act.put, xa, xb, xc, xd, xe, xf])
                      refine tk 6 ?_
                      refine tk 7 ?_
                      refine tk 8 ?_
                      refine tk 9 ?_
                      refine tk 10 ?_
                      refine tk 11 ?_
                      refine tk 12 ?_
                      refine wpAnyH_done (by kernel_rfl) ?_ _
                      clear hHeld
                      replace x0 := o9.cell x0 (.inr (Nat.zero_le _))
                      replace x1 := o9.cell x1 (.inr (Nat.zero_le _))
                      have B9 := HBM.out.kept o9 (.inr (Nat.zero_le _))
                      have v1 := B9.cell (bls_at hMa)
                      have v2 := B9.frozen aj
                      clear hMa
                      have HB9 := hid_mk B9
                      have HO9 := hid_mk (HOZ.out.trans o9)
                      clear B9 o9 p0 p1 HEf HFS
                      go_wp2
                      exact ⟨⟨i1, M.set aj true, t0, by rw [HIW.out], by have := HD.out; omega, rfl, by rw [← HD.out.2.2, top_old HD.out.1 (Int.not_lt.2 HTP.out)]; exact HT0.out, HS1.out, by rw [← bls_set]; exact HB9.out.set _ _, HO9.out.setCell (.inr (by have := HG8.out; show W1.heap.size ≤ g8; omega)) _⟩, by rw [HIW.out]; exact ms_k HD.out.2.1 HD.out.2.2⟩
                  · by_cases h15 : op = 15
                    · rw [h15] at hgb; cases hgb
                    · have n14 : (op == 14) = false := by simp; omega
                      have n15 : (op == 15) = false := by simp; omega
                      have hjb : juB op = false := by unfold juB; rw [n14, n15]; rfl
                      clear h14 h15
                      by_cases htp : t0 < d
                      · have q2 := gtd htp
                        have HTP : Hid (mxL (D.take i) < d) := hid_mk (by rw [HT0.out]; exact htp)
                        clear htp
                        have HS1 : Hid (MS f.2.2.2 D i1 M) := hid_mk (by have := s1; rw [HD.out.2.2] at this; simpa [mk1, mk2, hgb, hjb] using this)
                        clear s1 s2 s3
                        go_wp2_with fail
                        refine wp_region_held_drew (S := fun w' => w'.cell? ⟨b, 0, none⟩ = some (.int .i64 x) ∧ w'.cell? ⟨b, 1, none⟩ = some (.slice ta nt tc) ∧ w'.cell? ⟨b, 2, none⟩ = some (.slice (some ⟨qf, off, none⟩) nf fc) ∧ w'.cell? ⟨qc, oc + i * 2, none⟩ = some (.int .i64 op) ∧ w'.cell? ⟨qc, oc + i * 2 + 1, none⟩ = some (.int .i64 a)) (by kernel_rfl) ?hS29 (fun hHeld => ?rest29)
                        case hS29 => exact ⟨p0, p1, p2, x0, x1⟩
                        refine tk 0 ?_
                        refine tk 1 ?_
                        refine tk 2 ?_
                        refine tk 3 ?_
                        refine tk 4 ?_
                        refine wpAnyH_ready (rs := [5]) (by kernel_rfl) (by simp) ?_
                        refine AllReadyH.cons rfl (fun KK hK => ?_) AllReadyH.nil
                        simp only [xa, xb, xc]
                        go_simp
                        refine (HEf.out _ (HFS.out.kept (C := w.heap.size) (Lo.of_out ((Out.refl 0 0 wr).drew)) (Nat.le_refl _)) HSZ.out).mono ?_
                        rintro e w9 ⟨he, o8⟩
                        rw [hgb] at he
                        subst he
                        have o9 : Out 0 0 wr w9 := ((Out.refl 0 0 wr).drew).trans o8
                        clear o8
                        refine hK.out _ _ ?hS35 (fun hHeld2 => ?rest35)
                        case hS35 => exact ⟨o9.cell p0 (.inr (Nat.zero_le _)), o9.cell p1 (.inr (Nat.zero_le _)), o9.cell p2 (.inr (Nat.zero_le _)), o9.cell x0 (.inr (Nat.zero_le _)), o9.cell x1 (.inr (Nat.zero_le _))⟩
                        clear hK KK
                        (try clear hHeld)
                        have hHeld := hHeld2
                        clear hHeld2
                        (try simp only [Act.put, xa, xb, xc, xd, xe, xf])
                        refine tk 6 ?_
                        refine tk 7 ?_
                        refine tk 8 ?_
                        refine tk 9 ?_
                        refine tk 10 ?_
                        refine tk 11 ?_
                        refine tk 12 ?_
                        refine wpAnyH_done (by kernel_rfl) ?_ _
                        clear hHeld
                        replace x0 := o9.cell x0 (.inr (Nat.zero_le _))
                        replace x1 := o9.cell x1 (.inr (Nat.zero_le _))
                        have B9 := HBM.out.kept o9 (.inr (Nat.zero_le _))
                        have HB9 := hid_mk B9
                        have HO9 := hid_mk (HOZ.out.trans o9)
                        clear B9 o9 p0 p1 HEf HFS
                        go_wp2
                        exact ⟨⟨i1, M, d, by rw [HIW.out], by have := HD.out; omega, rfl, by rw [← HD.out.2.2, top_new HD.out.1 HTP.out], HS1.out, HB9.out, HO9.out⟩, by rw [HIW.out]; exact ms_k HD.out.2.1 HD.out.2.2⟩
                      · have q2 := gef htp
                        have HTP : Hid (d ≤ mxL (D.take i)) := hid_mk (by rw [HT0.out]; exact Int.not_lt.1 htp)
                        clear htp
                        have HS1 : Hid (MS f.2.2.2 D i1 M) := hid_mk (by have := s1; rw [HD.out.2.2] at this; simpa [mk1, mk2, hgb, hjb] using this)
                        clear s1 s2 s3
                        go_wp2_with fail
                        refine wp_region_held_drew (S := fun w' => w'.cell? ⟨b, 0, none⟩ = some (.int .i64 x) ∧ w'.cell? ⟨b, 1, none⟩ = some (.slice ta nt tc) ∧ w'.cell? ⟨b, 2, none⟩ = some (.slice (some ⟨qf, off, none⟩) nf fc) ∧ w'.cell? ⟨qc, oc + i * 2, none⟩ = some (.int .i64 op) ∧ w'.cell? ⟨qc, oc + i * 2 + 1, none⟩ = some (.int .i64 a)) (by kernel_rfl) ?hS43 (fun hHeld => ?rest43)
                        case hS43 => exact ⟨p0, p1, p2, x0, x1⟩
                        refine tk 0 ?_
                        refine tk 1 ?_
                        refine tk 2 ?_
                        refine tk 3 ?_
                        refine tk 4 ?_
                        refine wpAnyH_ready (rs := [5]) (by kernel_rfl) (by simp) ?_
                        refine AllReadyH.cons rfl (fun KK hK => ?_) AllReadyH.nil
                        simp only [xa, xb, xc]
                        go_simp
                        refine (HEf.out _ (HFS.out.kept (C := w.heap.size) (Lo.of_out ((Out.refl 0 0 wr).drew)) (Nat.le_refl _)) HSZ.out).mono ?_
                        rintro e w9 ⟨he, o8⟩
                        rw [hgb] at he
                        subst he
                        have o9 : Out 0 0 wr w9 := ((Out.refl 0 0 wr).drew).trans o8
                        clear o8
                        refine hK.out _ _ ?hS49 (fun hHeld2 => ?rest49)
                        case hS49 => exact ⟨o9.cell p0 (.inr (Nat.zero_le _)), o9.cell p1 (.inr (Nat.zero_le _)), o9.cell p2 (.inr (Nat.zero_le _)), o9.cell x0 (.inr (Nat.zero_le _)), o9.cell x1 (.inr (Nat.zero_le _))⟩
                        clear hK KK
                        (try clear hHeld)
                        have hHeld := hHeld2
                        clear hHeld2
                        (try simp only [Act.put, xa, xb, xc, xd, xe, xf])
                        refine tk 6 ?_
                        refine tk 7 ?_
                        refine tk 8 ?_
                        refine tk 9 ?_
                        refine tk 10 ?_
                        refine tk 11 ?_
                        refine tk 12 ?_
                        refine wpAnyH_done (by kernel_rfl) ?_ _
                        clear hHeld
                        replace x0 := o9.cell x0 (.inr (Nat.zero_le _))
                        replace x1 := o9.cell x1 (.inr (Nat.zero_le _))
                        have B9 := HBM.out.kept o9 (.inr (Nat.zero_le _))
                        have HB9 := hid_mk B9
                        have HO9 := hid_mk (HOZ.out.trans o9)
                        clear B9 o9 p0 p1 HEf HFS
                        go_wp2
                        exact ⟨⟨i1, M, t0, by rw [HIW.out], by have := HD.out; omega, rfl, by rw [← HD.out.2.2, top_old HD.out.1 (Int.not_lt.2 HTP.out)]; exact HT0.out, HS1.out, HB9.out, HO9.out⟩, by rw [HIW.out]; exact ms_k HD.out.2.1 HD.out.2.2⟩
                · by_cases h14 : op = 14
                  · rw [h14] at hgb; cases hgb
                  · by_cases h15 : op = 15
                    · have hjb : juB op = true := by rw [h15]; rfl
                      have n14 : (op == 14) = false := by simp; omega
                      have n15 : (op == 15) = true := by simpa using h15
                      clear h14 h15
                      obtain ⟨r1, r2⟩ := lt_dec (HD.out.2.2 ▸ s2 hgb : i1 < f.2.2.2.length)
                      rw [HNN.out.1] at r1 r2
                      have r3 : (i1 : Int) < (n : Int) := by simpa using r1
                      obtain ⟨b1, hM1⟩ : ∃ b, M[i1]? = some b := ⟨_, List.getElem?_eq_getElem (by have := HMS.out.1; have := HD.out.2.2; have := s2 hgb; omega)⟩
                      obtain ⟨aj, haj⟩ : ∃ aj : Nat, a = (aj : Int) := ⟨a.toNat, by have := s3 hjb; omega⟩
                      subst haj
                      have u1 : decide ((0 : Int) ≤ (aj : Int)) = true := by simp
                      obtain ⟨u2, u3⟩ := lt_dec (show aj < n by have := s3 hjb; have := HNN.out.1; omega)
                      have u4 : (aj : Int) < (n : Int) := by simpa using u2
                      obtain ⟨b2, hMa⟩ : ∃ b, M[aj]? = some b := ⟨_, List.getElem?_eq_getElem (by have := HMS.out.1; have := s3 hjb; omega)⟩
                      by_cases hai : aj = i1
                      · subst hai
                        by_cases htp : t0 < d
                        · have q2 := gtd htp
                          have HTP : Hid (mxL (D.take i) < d) := hid_mk (by rw [HT0.out]; exact htp)
                          clear htp
                          have HS1 : Hid (MS f.2.2.2 D aj ((M.set aj true).set aj true)) := hid_mk (by have := s1; rw [HD.out.2.2] at this; simpa [mk1, mk2, hgb, hjb, HD.out.2.2] using this)
                          clear s1 s2 s3
                          go_wp2_with fail
                          refine wp_region_held_drew (S := fun w' => w'.cell? ⟨b, 0, none⟩ = some (.int .i64 x) ∧ w'.cell? ⟨b, 1, none⟩ = some (.slice ta nt tc) ∧ w'.cell? ⟨b, 2, none⟩ = some (.slice (some ⟨qf, off, none⟩) nf fc) ∧ w'.cell? ⟨qc, oc + i * 2, none⟩ = some (.int .i64 op) ∧ w'.cell? ⟨qc, oc + i * 2 + 1, none⟩ = some (.int .i64 (aj : Int))) (by kernel_rfl) ?hS57 (fun hHeld => ?rest57)
                          case hS57 => exact ⟨p0, p1, p2, x0, x1⟩
                          refine tk 0 ?_
                          refine tk 1 ?_
                          refine tk 2 ?_
                          refine tk 3 ?_
                          refine tk 4 ?_
                          refine wpAnyH_ready (rs := [5]) (by kernel_rfl) (by simp) ?_
                          refine AllReadyH.cons rfl (fun KK hK => ?_) AllReadyH.nil
                          simp only [xa, xb, xc]
                          go_simp
                          refine (HEf.out _ (HFS.out.kept (C := w.heap.size) (Lo.of_out ((Out.refl 0 0 wr).drew)) (Nat.le_refl _)) HSZ.out).mono ?_
                          rintro e w9 ⟨he, o8⟩
                          rw [hgb] at he
                          subst he
                          have o9 : Out 0 0 wr w9 := ((Out.refl 0 0 wr).drew).trans o8
                          clear o8
                          refine hK.out _ _ ?hS63 (fun hHeld2 => ?rest63)
                          case hS63 => exact ⟨o9.cell p0 (.inr (Nat.zero_le _)), o9.cell p1 (.inr (Nat.zero_le _)), o9.cell p2 (.inr (Nat.zero_le _)), o9.cell x0 (.inr (Nat.zero_le _)), o9.cell x1 (.inr (Nat.zero_le _))⟩
                          clear hK KK
                          (try clear hHeld)
                          have hHeld := hHeld2
                          clear hHeld2
                          (try simp only [Act.put, xa, xb, xc, xd, xe, xf])
                          refine tk 6 ?_
                          refine tk 7 ?_
                          refine tk 8 ?_
                          refine tk 9 ?_
                          refine tk 10 ?_
                          refine tk 11 ?_
                          refine tk 12 ?_
                          refine wpAnyH_done (by kernel_rfl) ?_ _
                          clear hHeld
                          replace x0 := o9.cell x0 (.inr (Nat.zero_le _))
                          replace x1 := o9.cell x1 (.inr (Nat.zero_le _))
                          have B9 := HBM.out.kept o9 (.inr (Nat.zero_le _))
                          have y1 := B9.cell (bls_at hM1)
                          have y2 := B9.frozen aj
                          clear hM1
                          have HB9 := hid_mk B9
                          have HO9 := hid_mk (HOZ.out.trans o9)
                          clear B9 o9 p0 p1 HEf HFS
                          go_wp2
                          exact ⟨⟨aj, (M.set aj true).set aj true, d, by rw [HIW.out], by have := HD.out; omega, rfl, by rw [← HD.out.2.2, top_new HD.out.1 HTP.out], HS1.out, by rw [← bls_set, ← bls_set]; exact (HB9.out.set _ _).set _ _, (HO9.out.setCell (.inr (by have := HG8.out; show W1.heap.size ≤ g8; omega)) _).setCell (.inr (by have := HG8.out; show W1.heap.size ≤ g8; omega)) _⟩, by rw [HIW.out]; exact ms_k HD.out.2.1 HD.out.2.2⟩
                        · have q2 := gef htp
                          have HTP : Hid (d ≤ mxL (D.take i)) := hid_mk (by rw [HT0.out]; exact Int.not_lt.1 htp)
                          clear htp
                          have HS1 : Hid (MS f.2.2.2 D aj ((M.set aj true).set aj true)) := hid_mk (by have := s1; rw [HD.out.2.2] at this; simpa [mk1, mk2, hgb, hjb, HD.out.2.2] using this)
                          clear s1 s2 s3
                          go_wp2_with fail
                          refine wp_region_held_drew (S := fun w' => w'.cell? ⟨b, 0, none⟩ = some (.int .i64 x) ∧ w'.cell? ⟨b, 1, none⟩ = some (.slice ta nt tc) ∧ w'.cell? ⟨b, 2, none⟩ = some (.slice (some ⟨qf, off, none⟩) nf fc) ∧ w'.cell? ⟨qc, oc + i * 2, none⟩ = some (.int .i64 op) ∧ w'.cell? ⟨qc, oc + i * 2 + 1, none⟩ = some (.int .i64 (aj : Int))) (by kernel_rfl) ?hS71 (fun hHeld => ?rest71)
                          case hS71 => exact ⟨p0, p1, p2, x0, x1⟩
                          refine tk 0 ?_
                          refine tk 1 ?_
                          refine tk 2 ?_
                          refine tk 3 ?_
                          refine tk 4 ?_
                          refine wpAnyH_ready (rs := [5]) (by kernel_rfl) (by simp) ?_
                          refine AllReadyH.cons rfl (fun KK hK => ?_) AllReadyH.nil
                          simp only [xa, xb, xc]
                          go_simp
                          refine (HEf.out _ (HFS.out.kept (C := w.heap.size) (Lo.of_out ((Out.refl 0 0 wr).drew)) (Nat.le_refl _)) HSZ.out).mono ?_
                          rintro e w9 ⟨he, o8⟩
                          rw [hgb] at he
                          subst he
                          have o9 : Out 0 0 wr w9 := ((Out.refl 0 0 wr).drew).trans o8
                          clear o8
                          refine hK.out _ _ ?hS77 (fun hHeld2 => ?rest77)
                          case hS77 => exact ⟨o9.cell p0 (.inr (Nat.zero_le _)), o9.cell p1 (.inr (Nat.zero_le _)), o9.cell p2 (.inr (Nat.zero_le _)), o9.cell x0 (.inr (Nat.zero_le _)), o9.cell x1 (.inr (Nat.zero_le _))⟩
                          clear hK KK
                          (try clear hHeld)
                          have hHeld := hHeld2
                          clear hHeld2
                          (try simp only [Act.put, xa, xb, xc, xd, xe, xf])
                          refine tk 6 ?_
                          refine tk 7 ?_
                          refine tk 8 ?_
                          refine tk 9 ?_
                          refine tk 10 ?_
                          refine tk 11 ?_
                          refine tk 12 ?_
                          refine wpAnyH_done (by kernel_rfl) ?_ _
                          clear hHeld
                          replace x0 := o9.cell x0 (.inr (Nat.zero_le _))
                          replace x1 := o9.cell x1 (.inr (Nat.zero_le _))
                          have B9 := HBM.out.kept o9 (.inr (Nat.zero_le _))
                          have y1 := B9.cell (bls_at hM1)
                          have y2 := B9.frozen aj
                          clear hM1
                          have HB9 := hid_mk B9
                          have HO9 := hid_mk (HOZ.out.trans o9)
                          clear B9 o9 p0 p1 HEf HFS
                          go_wp2
                          exact ⟨⟨aj, (M.set aj true).set aj true, t0, by rw [HIW.out], by have := HD.out; omega, rfl, by rw [← HD.out.2.2, top_old HD.out.1 (Int.not_lt.2 HTP.out)]; exact HT0.out, HS1.out, by rw [← bls_set, ← bls_set]; exact (HB9.out.set _ _).set _ _, (HO9.out.setCell (.inr (by have := HG8.out; show W1.heap.size ≤ g8; omega)) _).setCell (.inr (by have := HG8.out; show W1.heap.size ≤ g8; omega)) _⟩, by rw [HIW.out]; exact ms_k HD.out.2.1 HD.out.2.2⟩
                      · have g1 : ¬ i1 = aj := fun e => hai e.symm
                        by_cases htp : t0 < d
                        · have q2 := gtd htp
                          have HTP : Hid (mxL (D.take i) < d) := hid_mk (by rw [HT0.out]; exact htp)
                          clear htp
                          have HS1 : Hid (MS f.2.2.2 D i1 ((M.set i1 true).set aj true)) := hid_mk (by have := s1; rw [HD.out.2.2] at this; simpa [mk1, mk2, hgb, hjb, HD.out.2.2] using this)
                          clear s1 s2 s3
                          go_wp2_with fail
                          refine wp_region_held_drew (S := fun w' => w'.cell? ⟨b, 0, none⟩ = some (.int .i64 x) ∧ w'.cell? ⟨b, 1, none⟩ = some (.slice ta nt tc) ∧ w'.cell? ⟨b, 2, none⟩ = some (.slice (some ⟨qf, off, none⟩) nf fc) ∧ w'.cell? ⟨qc, oc + i * 2, none⟩ = some (.int .i64 op) ∧ w'.cell? ⟨qc, oc + i * 2 + 1, none⟩ = some (.int .i64 (aj : Int))) (by kernel_rfl) ?hS85 (fun hHeld => ?rest85)
                          case hS85 => exact ⟨p0, p1, p2, x0, x1⟩
                          refine tk 0 ?_
                          refine tk 1 ?_
                          refine tk 2 ?_
                          refine tk 3 ?_
                          refine tk 4 ?_
                          refine wpAnyH_ready (rs := [5]) (by kernel_rfl) (by simp) ?_
                          refine AllReadyH.cons rfl (fun KK hK => ?_) AllReadyH.nil
                          simp only [xa, xb, xc]
                          go_simp
                          refine (HEf.out _ (HFS.out.kept (C := w.heap.size) (Lo.of_out ((Out.refl 0 0 wr).drew)) (Nat.le_refl _)) HSZ.out).mono ?_
                          rintro e w9 ⟨he, o8⟩
                          rw [hgb] at he
                          subst he
                          have o9 : Out 0 0 wr w9 := ((Out.refl 0 0 wr).drew).trans o8
                          clear o8
                          refine hK.out _ _ ?hS91 (fun hHeld2 => ?rest91)
                          case hS91 => exact ⟨o9.cell p0 (.inr (Nat.zero_le _)), o9.cell p1 (.inr (Nat.zero_le _)), o9.cell p2 (.inr (Nat.zero_le _)), o9.cell x0 (.inr (Nat.zero_le _)), o9.cell x1 (.inr (Nat.zero_le _))⟩
                          clear hK KK
                          (try clear hHeld)
                          have hHeld := hHeld2
                          clear hHeld2
                          (try simp only [Act.put, xa, xb, xc, xd, xe, xf])
                          refine tk 6 ?_
                          refine tk 7 ?_
                          refine tk 8 ?_
                          refine tk 9 ?_
                          refine tk 10 ?_
                          refine tk 11 ?_
                          refine tk 12 ?_
                          refine wpAnyH_done (by kernel_rfl) ?_ _
                          clear hHeld
                          replace x0 := o9.cell x0 (.inr (Nat.zero_le _))
                          replace x1 := o9.cell x1 (.inr (Nat.zero_le _))
                          have B9 := HBM.out.kept o9 (.inr (Nat.zero_le _))
                          have y1 := B9.cell (bls_at hM1)
                          have y2 := B9.frozen i1
                          clear hM1
                          have v1 := B9.cell (bls_at hMa)
                          have v2 := B9.frozen aj
                          clear hMa
                          have HB9 := hid_mk B9
                          have HO9 := hid_mk (HOZ.out.trans o9)
                          clear B9 o9 p0 p1 HEf HFS
                          go_wp2
                          exact ⟨⟨i1, (M.set i1 true).set aj true, d, by rw [HIW.out], by have := HD.out; omega, rfl, by rw [← HD.out.2.2, top_new HD.out.1 HTP.out], HS1.out, by rw [← bls_set, ← bls_set]; exact (HB9.out.set _ _).set _ _, (HO9.out.setCell (.inr (by have := HG8.out; show W1.heap.size ≤ g8; omega)) _).setCell (.inr (by have := HG8.out; show W1.heap.size ≤ g8; omega)) _⟩, by rw [HIW.out]; exact ms_k HD.out.2.1 HD.out.2.2⟩
                        · have q2 := gef htp
                          have HTP : Hid (d ≤ mxL (D.take i)) := hid_mk (by rw [HT0.out]; exact Int.not_lt.1 htp)
                          clear htp
                          have HS1 : Hid (MS f.2.2.2 D i1 ((M.set i1 true).set aj true)) := hid_mk (by have := s1; rw [HD.out.2.2] at this; simpa [mk1, mk2, hgb, hjb, HD.out.2.2] using this)
                          clear s1 s2 s3
                          go_wp2_with fail
                          refine wp_region_held_drew (S := fun w' => w'.cell? ⟨b, 0, none⟩ = some (.int .i64 x) ∧ w'.cell? ⟨b, 1, none⟩ = some (.slice ta nt tc) ∧ w'.cell? ⟨b, 2, none⟩ = some (.slice (some ⟨qf, off, none⟩) nf fc) ∧ w'.cell? ⟨qc, oc + i * 2, none⟩ = some (.int .i64 op) ∧ w'.cell? ⟨qc, oc + i * 2 + 1, none⟩ = some (.int .i64 (aj : Int))) (by kernel_rfl) ?hS99 (fun hHeld => ?rest99)
                          case hS99 => exact ⟨p0, p1, p2, x0, x1⟩
                          refine tk 0 ?_
                          refine tk 1 ?_
                          refine tk 2 ?_
                          refine tk 3 ?_
                          refine tk 4 ?_
                          refine wpAnyH_ready (rs := [5]) (by kernel_rfl) (by simp) ?_
                          refine AllReadyH.cons rfl (fun KK hK => ?_) AllReadyH.nil
                          simp only [xa, xb, xc]
                          go_simp
                          refine (HEf.out _ (HFS.out.kept (C := w.heap.size) (Lo.of_out ((Out.refl 0 0 wr).drew)) (Nat.le_refl _)) HSZ.out).mono ?_
                          rintro e w9 ⟨he, o8⟩
                          rw [hgb] at he
                          subst he
                          have o9 : Out 0 0 wr w9 := ((Out.refl 0 0 wr).drew).trans o8
                          clear o8
                          refine hK.out _ _ ?hS105 (fun hHeld2 => ?rest105)
                          case hS105 => exact ⟨o9.cell p0 (.inr (Nat.zero_le _)), o9.cell p1 (.inr (Nat.zero_le _)), o9.cell p2 (.inr (Nat.zero_le _)), o9.cell x0 (.inr (Nat.zero_le _)), o9.cell x1 (.inr (Nat.zero_le _))⟩
                          clear hK KK
                          (try clear hHeld)
                          have hHeld := hHeld2
                          clear hHeld2
                          (try simp only [Act.put, xa, xb, xc, xd, xe, xf])
                          refine tk 6 ?_
                          refine tk 7 ?_
                          refine tk 8 ?_
                          refine tk 9 ?_
                          refine tk 10 ?_
                          refine tk 11 ?_
                          refine tk 12 ?_
                          refine wpAnyH_done (by kernel_rfl) ?_ _
                          clear hHeld
                          replace x0 := o9.cell x0 (.inr (Nat.zero_le _))
                          replace x1 := o9.cell x1 (.inr (Nat.zero_le _))
                          have B9 := HBM.out.kept o9 (.inr (Nat.zero_le _))
                          have y1 := B9.cell (bls_at hM1)
                          have y2 := B9.frozen i1
                          clear hM1
                          have v1 := B9.cell (bls_at hMa)
                          have v2 := B9.frozen aj
                          clear hMa
                          have HB9 := hid_mk B9
                          have HO9 := hid_mk (HOZ.out.trans o9)
                          clear B9 o9 p0 p1 HEf HFS
                          go_wp2
                          exact ⟨⟨i1, (M.set i1 true).set aj true, t0, by rw [HIW.out], by have := HD.out; omega, rfl, by rw [← HD.out.2.2, top_old HD.out.1 (Int.not_lt.2 HTP.out)]; exact HT0.out, HS1.out, by rw [← bls_set, ← bls_set]; exact (HB9.out.set _ _).set _ _, (HO9.out.setCell (.inr (by have := HG8.out; show W1.heap.size ≤ g8; omega)) _).setCell (.inr (by have := HG8.out; show W1.heap.size ≤ g8; omega)) _⟩, by rw [HIW.out]; exact ms_k HD.out.2.1 HD.out.2.2⟩
                    · have n14 : (op == 14) = false := by simp; omega
                      have n15 : (op == 15) = false := by simp; omega
                      have hjb : juB op = false := by unfold juB; rw [n14, n15]; rfl
                      clear h14 h15
                      by_cases htp : t0 < d
                      · have q2 := gtd htp
                        have HTP : Hid (mxL (D.take i) < d) := hid_mk (by rw [HT0.out]; exact htp)
                        clear htp
                        obtain ⟨r1, r2⟩ := lt_dec (HD.out.2.2 ▸ s2 hgb : i1 < f.2.2.2.length)
                        rw [HNN.out.1] at r1 r2
                        have r3 : (i1 : Int) < (n : Int) := by simpa using r1
                        obtain ⟨b1, hM1⟩ : ∃ b, M[i1]? = some b := ⟨_, List.getElem?_eq_getElem (by have := HMS.out.1; have := HD.out.2.2; have := s2 hgb; omega)⟩
                        have HS1 : Hid (MS f.2.2.2 D i1 (M.set i1 true)) := hid_mk (by have := s1; rw [HD.out.2.2] at this; simpa [mk1, mk2, hgb, hjb, HD.out.2.2] using this)
                        clear s1 s2 s3
                        go_wp2_with fail
                        refine wp_region_held_drew (S := fun w' => w'.cell? ⟨b, 0, none⟩ = some (.int .i64 x) ∧ w'.cell? ⟨b, 1, none⟩ = some (.slice ta nt tc) ∧ w'.cell? ⟨b, 2, none⟩ = some (.slice (some ⟨qf, off, none⟩) nf fc) ∧ w'.cell? ⟨qc, oc + i * 2, none⟩ = some (.int .i64 op) ∧ w'.cell? ⟨qc, oc + i * 2 + 1, none⟩ = some (.int .i64 a)) (by kernel_rfl) ?hS113 (fun hHeld => ?rest113)
                        case hS113 => exact ⟨p0, p1, p2, x0, x1⟩
                        refine tk 0 ?_
                        refine tk 1 ?_
                        refine tk 2 ?_
                        refine tk 3 ?_
                        refine tk 4 ?_
                        refine wpAnyH_ready (rs := [5]) (by kernel_rfl) (by simp) ?_
                        refine AllReadyH.cons rfl (fun KK hK => ?_) AllReadyH.nil
                        simp only [xa, xb, xc]
                        go_simp
                        refine (HEf.out _ (HFS.out.kept (C := w.heap.size) (Lo.of_out ((Out.refl 0 0 wr).drew)) (Nat.le_refl _)) HSZ.out).mono ?_
                        rintro e w9 ⟨he, o8⟩
                        rw [hgb] at he
                        subst he
                        have o9 : Out 0 0 wr w9 := ((Out.refl 0 0 wr).drew).trans o8
                        clear o8
                        refine hK.out _ _ ?hS119 (fun hHeld2 => ?rest119)
                        case hS119 => exact ⟨o9.cell p0 (.inr (Nat.zero_le _)), o9.cell p1 (.inr (Nat.zero_le _)), o9.cell p2 (.inr (Nat.zero_le _)), o9.cell x0 (.inr (Nat.zero_le _)), o9.cell x1 (.inr (Nat.zero_le _))⟩
                        clear hK KK
                        (try clear hHeld)
                        have hHeld := hHeld2
                        clear hHeld2
                        (try simp only [Act.put, xa, xb, xc, xd, xe, xf])
                        refine tk 6 ?_
                        refine tk 7 ?_
                        refine tk 8 ?_
                        refine tk 9 ?_
                        refine tk 10 ?_
                        refine tk 11 ?_
                        refine tk 12 ?_
                        refine wpAnyH_done (by kernel_rfl) ?_ _
                        clear hHeld
                        replace x0 := o9.cell x0 (.inr (Nat.zero_le _))
                        replace x1 := o9.cell x1 (.inr (Nat.zero_le _))
                        have B9 := HBM.out.kept o9 (.inr (Nat.zero_le _))
                        have y1 := B9.cell (bls_at hM1)
                        have y2 := B9.frozen i1
                        clear hM1
                        have HB9 := hid_mk B9
                        have HO9 := hid_mk (HOZ.out.trans o9)
                        clear B9 o9 p0 p1 HEf HFS
                        go_wp2
                        exact ⟨⟨i1, M.set i1 true, d, by rw [HIW.out], by have := HD.out; omega, rfl, by rw [← HD.out.2.2, top_new HD.out.1 HTP.out], HS1.out, by rw [← bls_set]; exact HB9.out.set _ _, HO9.out.setCell (.inr (by have := HG8.out; show W1.heap.size ≤ g8; omega)) _⟩, by rw [HIW.out]; exact ms_k HD.out.2.1 HD.out.2.2⟩
                      · have q2 := gef htp
                        have HTP : Hid (d ≤ mxL (D.take i)) := hid_mk (by rw [HT0.out]; exact Int.not_lt.1 htp)
                        clear htp
                        obtain ⟨r1, r2⟩ := lt_dec (HD.out.2.2 ▸ s2 hgb : i1 < f.2.2.2.length)
                        rw [HNN.out.1] at r1 r2
                        have r3 : (i1 : Int) < (n : Int) := by simpa using r1
                        obtain ⟨b1, hM1⟩ : ∃ b, M[i1]? = some b := ⟨_, List.getElem?_eq_getElem (by have := HMS.out.1; have := HD.out.2.2; have := s2 hgb; omega)⟩
                        have HS1 : Hid (MS f.2.2.2 D i1 (M.set i1 true)) := hid_mk (by have := s1; rw [HD.out.2.2] at this; simpa [mk1, mk2, hgb, hjb, HD.out.2.2] using this)
                        clear s1 s2 s3
                        go_wp2_with fail
                        refine wp_region_held_drew (S := fun w' => w'.cell? ⟨b, 0, none⟩ = some (.int .i64 x) ∧ w'.cell? ⟨b, 1, none⟩ = some (.slice ta nt tc) ∧ w'.cell? ⟨b, 2, none⟩ = some (.slice (some ⟨qf, off, none⟩) nf fc) ∧ w'.cell? ⟨qc, oc + i * 2, none⟩ = some (.int .i64 op) ∧ w'.cell? ⟨qc, oc + i * 2 + 1, none⟩ = some (.int .i64 a)) (by kernel_rfl) ?hS127 (fun hHeld => ?rest127)
                        case hS127 => exact ⟨p0, p1, p2, x0, x1⟩
                        refine tk 0 ?_
                        refine tk 1 ?_
                        refine tk 2 ?_
                        refine tk 3 ?_
                        refine tk 4 ?_
                        refine wpAnyH_ready (rs := [5]) (by kernel_rfl) (by simp) ?_
                        refine AllReadyH.cons rfl (fun KK hK => ?_) AllReadyH.nil
                        simp only [xa, xb, xc]
                        go_simp
                        refine (HEf.out _ (HFS.out.kept (C := w.heap.size) (Lo.of_out ((Out.refl 0 0 wr).drew)) (Nat.le_refl _)) HSZ.out).mono ?_
                        rintro e w9 ⟨he, o8⟩
                        rw [hgb] at he
                        subst he
                        have o9 : Out 0 0 wr w9 := ((Out.refl 0 0 wr).drew).trans o8
                        clear o8
                        refine hK.out _ _ ?hS133 (fun hHeld2 => ?rest133)
                        case hS133 => exact ⟨o9.cell p0 (.inr (Nat.zero_le _)), o9.cell p1 (.inr (Nat.zero_le _)), o9.cell p2 (.inr (Nat.zero_le _)), o9.cell x0 (.inr (Nat.zero_le _)), o9.cell x1 (.inr (Nat.zero_le _))⟩
                        clear hK KK
                        (try clear hHeld)
                        have hHeld := hHeld2
                        clear hHeld2
                        (try simp only [Act.put, xa, xb, xc, xd, xe, xf])
                        refine tk 6 ?_
                        refine tk 7 ?_
                        refine tk 8 ?_
                        refine tk 9 ?_
                        refine tk 10 ?_
                        refine tk 11 ?_
                        refine tk 12 ?_
                        refine wpAnyH_done (by kernel_rfl) ?_ _
                        clear hHeld
                        replace x0 := o9.cell x0 (.inr (Nat.zero_le _))
                        replace x1 := o9.cell x1 (.inr (Nat.zero_le _))
                        have B9 := HBM.out.kept o9 (.inr (Nat.zero_le _))
                        have y1 := B9.cell (bls_at hM1)
                        have y2 := B9.frozen i1
                        clear hM1
                        have HB9 := hid_mk B9
                        have HO9 := hid_mk (HOZ.out.trans o9)
                        clear B9 o9 p0 p1 HEf HFS
                        go_wp2
                        exact ⟨⟨i1, M.set i1 true, t0, by rw [HIW.out], by have := HD.out; omega, rfl, by rw [← HD.out.2.2, top_old HD.out.1 (Int.not_lt.2 HTP.out)]; exact HT0.out, HS1.out, by rw [← bls_set]; exact HB9.out.set _ _, HO9.out.setCell (.inr (by have := HG8.out; show W1.heap.size ≤ g8; omega)) _⟩, by rw [HIW.out]; exact ms_k HD.out.2.1 HD.out.2.2⟩
            · obtain rfl : i = n := by omega
              have l1 : decide ((i : Int) < (i : Int)) = false := by simp
              have HEN : Hid (∀ (j : Nat) d, D[j]? = some d → M[j]? = some (decide (0 ≤ d))) := hid_mk fun j d q => MS.end (by rw [HNN.out.1]; exact HMS.out) HKF.out.1 q
              have htt : t0 = t := by have h := HT0.out; rw [List.take_of_length_le (by have := HNN.out.2.1; omega), HNN.out.2.2.2.2] at h; exact h.symm
              subst htt
              clear hin hi ht0 hms hbM hoz
              go_wp2_with fail
              go_loopw [16] (fun jv wz => ∃ j : Nat, jv = .int .i64 j ∧ j ≤ i ∧ Bl wz g8 (bls M).toArray 4 ∧ Out 0 0 W1 wz) (fun jv _ => i - (intOf jv).toNat)
              case atStart => exact ⟨0, rfl, Nat.zero_le _, HBM.out, HOZ.out⟩
              case round =>
                obtain ⟨j, rfl, hj, hb, hz⟩ := hrel
                have HB5 := hid_mk hb
                have HZ5 := hid_mk hz
                clear l1
                by_cases hjn : j < i
                · obtain ⟨l1, l2⟩ := lt_dec hjn
                  have l4 : (j : Int) < (i : Int) := by omega
                  obtain ⟨j1, hj1, hjw⟩ := up_i hjn HNN.out.2.2.2.1
                  obtain ⟨d, hd⟩ : ∃ d, D[j]? = some d := ⟨_, List.getElem?_eq_getElem (by have := HNN.out; omega)⟩
                  have dj := iv_cell (HBD.out.kept hz (.inr (Nat.zero_le _))) hd
                  have mj := hb.cell (bls_at (HEN.out j d hd))
                  have q9 : decide (d < -1) = false := by have := (HKF.out.1.2.1 j d hd).1; simp; omega
                  have HJW := hid_mk hjw
                  have HJ := hid_mk (And.intro hjn hj1)
                  clear hjw hj1 hjn hj hb hz hd
                  by_cases h0 : 0 ≤ d
                  · rw [decide_eq_true h0] at mj
                    have q1 := led h0
                    clear h0
                    go_wp2_with fail
                    go_region
                    go_wp2
                    exact ⟨⟨j1, by rw [HJW.out], by have := HJ.out; omega, HB5.out, HZ5.out.drew⟩, by rw [HJW.out]; exact ms_k HJ.out.1 HJ.out.2⟩
                  · rw [decide_eq_false h0] at mj
                    have q1 := lef h0
                    clear h0
                    go_wp2_with fail
                    go_region
                    go_wp2
                    exact ⟨⟨j1, by rw [HJW.out], by have := HJ.out; omega, HB5.out, HZ5.out.drew⟩, by rw [HJW.out]; exact ms_k HJ.out.1 HJ.out.2⟩
                · obtain rfl : j = i := by omega
                  have l1 : decide ((j : Int) < (j : Int)) = false := by simp
                  have c1 := hz.cell HCE.out.1 (.inr (Nat.zero_le _))
                  have c4 := hz.cell HCE.out.2.1 (.inr (Nat.zero_le _))
                  have p2 := hz.cell HCE.out.2.2.1 (.inr (Nat.zero_le _))
                  have m0 := hz.cell HCE.out.2.2.2.1 (.inr (Nat.zero_le _))
                  have qv := HSL.out
                  have q8 : (sv != sv) = false := by simp
                  clear hjn hj hb hz
                  go_wp2_with fail
                  go_region
                  go_wp2
                  exact ⟨⟨k1, by rw [HKW.out], by have := HCE.out.2.2.2.2; omega, (HOR.out.trans HZ5.out).drew⟩, by rw [HKW.out]; exact ms_k HCE.out.2.2.2.2.2 HCE.out.2.2.2.2.1⟩
        · obtain rfl : k = nf := by omega
          have l1 : decide ((k : Int) < (k : Int)) = false := by simp
          clear hk hgo ho
          go_wp2
          go_ret
          exact ⟨rfl, HOW.out.trans HOR.out⟩
    · have hne : (er != 0) = true := by simpa using ck_ne z1
      have HO2 := hid_mk (HO1.out.trans o2)
      clear o2 z1 k0 k1 k2
      have HO7 := hid_mk (HO2.out.trans ((Out.refl 0 0 w2).alloc (.cells #[.slice none 0 0, .slice none 0 0] 53)))
      go_wp2_with fail
      refine (alive_any (HT.out.out HO7.out (.inr rfl))).mono ?_
      rintro e w3 ⟨rfl, o3⟩
      replace HO7 := hid_mk (HO7.out.trans o3)
      clear o3
      go_wp2_with fail
      refine (alive_any (HT.out.out HO7.out (.inr rfl))).mono ?_
      rintro e w4 ⟨rfl, o4⟩
      replace HO7 := hid_mk (HO7.out.trans o4)
      clear o4
      go_wp2
      go_ret
      exact ⟨rfl, HO7.out⟩
end Go.Proofs.YthijkfcobkdihaaDoor
namespace Go.Proofs.YthijkfcobkdihaaDoor.checkTight
open Go.ChangeShapes Go.WideShapes Go.ChangeAt Go.RowKit Go.Deep
set_option linter.unusedVariables false

theorem walk {H : Type} {enc : TypeId × Value → H} {W : World} {f0 : Nat} {v0 : Value} {x0 : DataW H × List MemPlace} (hv0 : ∃ cs : Array Value, v0 = .agg cs) (h0 : DataW.trod enc Tryd.prog W 0 (fun _ => true) true f0 35 v0.cells.toList = some x0) (hT : Ty W) (hw0 : ∀ n ∈ x0.1.weights Tryd.prog 35, n ≤ reachBytes) :
    Calls Tryd.prog 7 #[v0] W fun e w' => e = .returned (.bool true) ∧ Below W.heap.size W w' := by
  obtain ⟨g, ta, fa, ts, fs, tc, fc, rfl, k1, k2, k3, k4, k5, k6⟩ := open_prog hv0 h0 hw0
  have big : ∀ {k : Nat}, k ≤ 140737488351232 → Lim k := fun h => by unfold Lim; omega
  exact (tight_any hT g ts fs ta fa _ tc _ fc rfl rfl k1 k2 (fun f hf => (k5 f hf).1) (big k4) (big k6) (fun t ht => big (k3 t ht)) (fun f hf => big (k5 f hf).2)).mono fun e w' h => ⟨h.1, h.2.all⟩

set_option maxRecDepth 100000 in
theorem lifted (os : Os) (started : os.Started) (H : Type) (enc : TypeId × Value → H) :
    ReturnsInHanded {} Tryd.checked os 7 .any (fun w args => (Rows.checkTightSpec.pre enc Tryd.prog Tryd.f7 [] false w args ∧ laidMetH Tryd.prog laidL w) ∧ sizedMet enc Tryd.prog Tryd.f7 (OpenSpec.ofChange Rows.checkTightSpec) false w args)
      (Rows.checkTightSpec.post enc Tryd.prog Tryd.f7 false true false false) := by
  refine returnsInHanded_of_change_and (C := Tryd.checked) (X := fun w _ => laidMetH Tryd.prog laidL w) (fun _ _ _ hh h => h.of_heap hh) own started (by kernel_rfl) Tryd.func7
    (ChangeSpec.witness_at (enc := enc) (C := Tryd.checked) (os := os) (X := fun w _ => laidMetH Tryd.prog laidL w) false (laidWorld os) #[.agg #[.int .i64 0, .slice none 0 0, .slice none 0 0]] 8 rfl (by kernel_rfl) (by kernel_rfl) (by kernel_rfl) (by kernel_rfl) (by kernel_rfl) (door_met os _)) ?_
  intro W base args ds gs before hval0 hW _ hsz hL _
  have hval : ∀ (j : Nat) t v, Tryd.f7.params[j]? = some t → args[j]? = some v → Value.okWide Tryd.prog W .any base t v := hval0
  have hW' := hW
  obtain ⟨p, q, hA0, hV, rfl, hfz, hnd⟩ := hW
  have hA : DataW.TrodAll enc Tryd.prog W 0 (fun _ => true) true Tryd.f7.params.toList args.toList ds p := hA0
  have hT := tab_of_laid hL
  rw [Tryd.params7] at hA hval
  obtain ⟨v0, vs0, d0, ds0, p0, q0, hargs, rfl, rfl, h0, r0⟩ := trodAll_cons hA
  obtain ⟨rfl, rfl, rfl⟩ := trodAll_nil r0
  obtain rfl : args = #[v0] := by cases args; simp_all
  obtain ⟨rfl, rfl⟩ := trodVars_none hV
  have hlt0 : ∀ x ∈ p0, x.block < W.heap.size := fun x hx => by simpa using hW'.lt x (by simp [hx])
  have h0k := h0
  obtain ⟨cs0, hv0, _⟩ := okWide_struct Tryd.underlying35 (hval 0 35 v0 rfl rfl)
  obtain ⟨fuel0, hf0⟩ := h0
  clear hA0 hval0
  refine (walk ⟨cs0, hv0⟩ hf0 hT (fun n hn => by simpa using List.all_eq_true.1 hsz n (DataW.weights_mem_each (j := 0) (t := 35) (by rw [Tryd.params7]; rfl) rfl n hn))).mono fun e W' ⟨he, hg⟩ => ?_
  subst he
  exact ⟨_, rfl, _, _, _, [], _, [], hW', (trodAll_cons_mk (shut_bool Tryd.underlying4 _) trodAll_mk0), (trodAll_cons_mk (Below.trod laid_out (by kernel_rfl) (of_decide_eq_true (by kernel_rfl)) h0k hg hlt0) trodAll_mk0), rfl, hg.frame _, fun h => by cases h⟩

theorem over : Rows.CheckTightSaid :=
  OpenClaim.holds_of_wide 7 Tryd.f7 rfl rfl rfl rfl rfl rfl rfl ⟨rfl, rfl, rfl, rfl, rfl⟩ rfl rfl rfl rfl rfl (by kernel_rfl) Tryd.func7 (by kernel_rfl)
    (of_decide_eq_true (by kernel_rfl)) (by unfold Func.isWrapper; first | (rw [if_pos (by decide +kernel)]; kernel_rfl) | (rw [if_neg (by decide +kernel)]; exact ⟨rfl, rfl⟩))
    (fun os started H enc _ => lifted os started H enc)

/-- ████ THE STATEMENT: THE TIED CARD ████ -/
theorem proved : Rows.CheckTightCardSaid :=
  Claim7.holds_tied_plain_at .later [] [.handle] true (true, "d82b3e9e1e5f601c6d3c56dd0af1c5531e8b1fbf6daae26301a512ca28feb5f9") true
    over (fun _ h => by cases h) (by kernel_rfl) (fun _ h => by cases h) checkTight_row_tie rfl ⟨rfl, rfl⟩ (by kernel_rfl) rfl
    (fun f fn hf hfn => by
      obtain rfl : f = 7 := Option.some.inj ((show Tryd.prog.funcNamed "hearth/hearthlaw19.CheckTight" = some 7 by kernel_rfl).symm.trans hf) |>.symm
      obtain rfl : fn = Tryd.f7 := (Option.some.inj (Tryd.func7.symm.trans hfn)).symm
      exact ⟨by kernel_rfl, fun j t ht => by
        rw [Tryd.params7] at ht
        have hm : t ∈ [35] := by simpa using Array.mem_of_getElem? ht
        have hall : ([35].all fun u => !Tryd.prog.wantsStandIn u) = true := by kernel_rfl
        exact (show Tryd.prog.wantsStandIn t = false by simpa using List.all_eq_true.1 hall t hm)⟩)
    (by kernel_rfl)
#print axioms proved
end Go.Proofs.YthijkfcobkdihaaDoor.checkTight
