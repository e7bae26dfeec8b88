/- the law CheckWalks: its walk -/
import Derived.Test.YtagnpedkomehaaaDoorCards
import Derived.Test.YtagnpedkomehaaaDoorUta
import Derived.Test.YtagnpedkomehaaaDoorCwa
namespace Go.Proofs.YtagnpedkomehaaaDoor
open Go.RowKit
set_option linter.unusedVariables false
set_option linter.unusedSimpArgs false

theorem InIn.low {w : World} {B C : Nat} {p : Option Addr} {l : List (Int × Int)} (h : InIn w B p l) (hx : B ≤ C) : InIn w C p l := by
  rcases h with h | ⟨g, off, h1, h2, h3⟩
  · exact .inl h
  · exact .inr ⟨g, off, h1, by omega, h3⟩
theorem tu_w {tu np : Nat} (h : Lim np) (h2 : tu < np) : wrap64 ((tu : Int) + 1) = ((tu + 1 : Nat) : Int) := by unfold Lim at h; unfold wrap64; omega
theorem nn_of {y u d : Int} (h : 0 ≤ y) (h2 : 0 ≤ u) (h3 : y + u = d) : 0 ≤ d := by omega
theorem sl_w {f : Int × Int × Int × List (Int × Int)} {L d y u : Int} (h : f.2.1 = L) (h1 : 0 ≤ f.2.1 ∧ f.2.1 ≤ 64) (h2 : d ≤ 64) (h3 : 0 ≤ y) (h4 : 0 ≤ u) (h5 : y + u = d) : IntKind.i64.wrap (L + d) = L + d := by
  simp [IntKind.wrap, IntKind.signed, IntKind.bits]; omega
theorem ft_no {w w' : World} {nt nf : Nat} {fs : List (Int × Int × Int × List (Int × Int))} {e : Ending} (h : FtQ w nt nf fs e w') : ∃ b, e = .returned (.bool b) ∧ (b = true → (nt : Int) + (nf : Int) ≤ 300000 ∧ ∀ f ∈ fs, (f.2.2.2.length : Int) ≤ 300000) ∧ Out 0 0 w w' := by
  obtain ⟨⟨b, h1, h2⟩, h3⟩ := h
  exact ⟨b, h1, h2, h3⟩
set_option maxRecDepth 100000 in
set_option maxHeartbeats 40000000 in
theorem walks_any {w : World} (hT : Ty w) (x : Int) (ts : List (List Int)) (fs : List (Int × Int × Int × List (Int × Int))) (ta fa : Option Addr) (nt tc nf fc : Nat) (hnt : ts.length = nt) (hnf : fs.length = nf) (hts : TxIn w w.heap.size ta ts) (hfs : FnIn w w.heap.size fa fs) (hM : ∀ f ∈ fs, MI f.2.2.2) (h1 : Lim nt) (h2 : Lim nf) (h3 : ∀ t ∈ ts, Lim t.length) (h4 : ∀ f ∈ fs, Lim f.2.2.2.length)
    (fx : Int) (hfx : -9223372036854775808 ≤ fx ∧ fx ≤ 9223372036854775807) (pk : List Int) (pa : Option Addr) (np pc : Nat) (hpk : pk.length = np) (hpi : IvIn w pa pk) (hnp : Lim np) :
    Calls Tryd.prog 5 #[.agg #[.int .i64 x, .slice ta nt tc, .slice fa nf fc], .int .i64 fx, .slice pa np pc] w fun e w' => e = .returned (.bool true) ∧ Out 0 0 w w' := by
  obtain ⟨b, hb⟩ : ∃ b, w.heap.size = b := ⟨_, rfl⟩
  obtain ⟨V, hV⟩ : ∃ V, w.alloc (.cells #[.int .i64 x, .slice ta nt tc, .slice fa nf fc] 25) = V := ⟨_, rfl⟩
  have oV : Out 0 0 w V := by rw [← hV]; exact (Out.refl 0 0 w).alloc _
  have b0 : Bl V b #[.int .i64 x, .slice ta nt tc, .slice fa nf fc] 25 := by rw [← hV, ← hb]; exact Bl.new _ _ _
  have k0 := b0.cell (i := 0) rfl
  have k1 := b0.cell (i := 1) rfl
  have k2 := b0.cell (i := 2) rfl
  have HB0 := hid_mk b0
  have HO := hid_mk oV
  have HT := hid_mk hT
  have HH := hid_mk (And.intro hts (And.intro hfs (And.intro hnt (And.intro hnf hM))))
  have HP := hid_mk (And.intro hpk hpi)
  have HNP := hid_mk hnp
  have HX := hid_mk hfx
  have HFt := hid_mk (fits_any (w := V) (B := w.heap.size) x ts fs ta fa nt nf tc fc hnt hnf (hts.kept (Lo.of_out oV) (Nat.le_refl _)) (hfs.kept (Lo.of_out oV) (Nat.le_refl _)) h1 h2 h3 h4)
  clear hT hnt hnf hts hfs hM h1 h2 h3 h4 hpk hpi hfx oV b0 hnp
  go_enter Tryd.func5, Tryd.ntmps5
  go_wp2_with fail
  (try rw [hV])
  (try rw [hb])
  clear hV hb
  refine HFt.out.mono ?_
  intro e w1 hq
  obtain ⟨bb, rfl, hbb, o1⟩ := ft_no hq
  clear hq
  cases bb
  · have HO1 := hid_mk (HO.out.trans o1)
    clear o1 hbb k0 k1 k2
    go_wp2_with (go_at_call 10; refine (alive_any (HT.out.out HO1.out (.inr rfl))).mono ?_; rintro e w2 ⟨rfl, o2⟩; replace HO1 := hid_mk (HO1.out.trans o2); clear o2)
    go_ret
    exact ⟨rfl, HO1.out⟩
  · have HO1 := hid_mk (HO.out.trans o1)
    have HB1 := hid_mk (HB0.out.kept o1 (.inr (Nat.zero_le _)))
    replace k0 := o1.cell k0 (.inr (Nat.zero_le _))
    replace k1 := o1.cell k1 (.inr (Nat.zero_le _))
    replace k2 := o1.cell k2 (.inr (Nat.zero_le _))
    have HBig := hid_mk (hbb rfl)
    have HCk := hid_mk (check_any (w := w1) (HT.out.out HO1.out (.inr rfl)) (B := w.heap.size) HO1.out.size x ts fs ta fa nt tc nf fc HH.out.2.2.1 HH.out.2.2.2.1 (HH.out.1.kept (Lo.of_out HO1.out) (Nat.le_refl _)) (HH.out.2.1.kept (Lo.of_out HO1.out) (Nat.le_refl _)) HH.out.2.2.2.2)
    clear o1 hbb HFt HB0 HO
    go_wp2_with fail
    refine HCk.out.mono ?_
    rintro e w2 ⟨o2, ⟨S, Ds, sv, dv, dgs, z1, rfl, z2⟩ | ⟨er, f, i, z1, rfl⟩⟩
    · obtain ⟨hokP, hSl, hDl, hfn⟩ := ck_fn z1
      have hnf := HH.out.2.2.2.1
      have hnf1 : 0 < nf := by have := hokP.2.2.2.1.1; simp only [] at this; omega
      have hnf64 : nf ≤ 64 := by have := hokP.2.2.2.1.2; simp only [] at this; omega
      obtain ⟨k, hk⟩ : ∃ k, wiV fx nf = k := ⟨_, rfl⟩
      have hkn : k < nf := by rw [← hk]; exact wi_lt hnf1
      obtain ⟨f, hf⟩ : ∃ f, fs[k]? = some f := ⟨_, List.getElem?_eq_getElem (by omega)⟩
      obtain ⟨D, hD, hK, hS⟩ := hfn k f hf
      rw [hnf] at hSl hDl hK
      obtain ⟨qs, sc, qd, dc, dg, rfl, cs, rfl, cd, hbD⟩ := ck_cells z2 hS hD
      rw [hSl] at z2
      rw [hDl] at z2
      have HO2 := hid_mk (HO1.out.trans o2)
      obtain ⟨qf, off, pj, cj, rfl, hqf, f0, f1, f2, f3, f4⟩ := fn_cells (HH.out.2.1.kept (Lo.of_out HO2.out) (Nat.le_refl _)) hf
      have HWi := hid_mk (fun w : World => within_any (w := w) fx nf hnf1 HX.out)
      rw [hk] at HWi
      rw [hSl, hDl]
      obtain ⟨n, hn⟩ : ∃ n, f.2.2.2.length = n := ⟨_, rfl⟩
      have hDn : D.length = n := by rw [hK.1.1, hn]
      rw [hDn] at cd
      rw [hn] at f3
      obtain ⟨L, hL⟩ : ∃ L, f.2.1 = L := ⟨_, rfl⟩
      obtain ⟨s, hs⟩ : ∃ s, L + mxL D = s := ⟨_, rfl⟩
      rw [hL, hs] at cs
      rw [hL] at f1
      obtain ⟨g7, hg7⟩ : ∃ g, w2.heap.size = g := ⟨_, rfl⟩
      obtain ⟨W, hW⟩ : ∃ W, w2.alloc (.cells #[.slice (some ⟨qs, 0, none⟩) nf sc, .slice (some ⟨qd, 0, none⟩) nf dc] 41) = W := ⟨_, rfl⟩
      have oW : Out 0 0 w2 W := by rw [← hW]; exact (Out.refl 0 0 w2).alloc _
      have bW : Bl W g7 #[.slice (some ⟨qs, 0, none⟩) nf sc, .slice (some ⟨qd, 0, none⟩) nf dc] 41 := by rw [← hW, ← hg7]; exact Bl.new _ _ _
      have o12 := o2.trans oW
      -- what is read, in W
      have HC : Hid (Bl W b #[.int .i64 x, .slice ta nt tc, .slice (some ⟨qf, off, none⟩) nf fc] 25 ∧ Bl W g7 #[.slice (some ⟨qs, 0, none⟩) nf sc, .slice (some ⟨qd, 0, none⟩) nf dc] 41 ∧ W.cell? ⟨qs, k, none⟩ = some (.int .i64 s) ∧ W.cell? ⟨qd, k, none⟩ = some (.slice (some ⟨dg, 0, none⟩) n n) ∧ W.cell? ⟨qf, off + k * 4 + 1, none⟩ = some (.int .i64 L) ∧ W.cell? ⟨qf, off + k * 4 + 3, none⟩ = some (.slice pj n cj) ∧ Bl W dg (ivs D).toArray 3 ∧ InIn W W.heap.size pj f.2.2.2) := hid_mk ⟨HB1.out.kept o12 (.inr (Nat.zero_le _)), bW, oW.cell cs (.inr (Nat.zero_le _)), oW.cell cd (.inr (Nat.zero_le _)), oW.cell f1 (.inr (Nat.zero_le _)), oW.cell f3 (.inr (Nat.zero_le _)), hbD.kept oW (.inr (Nat.zero_le _)), (f4.kept (C := w.heap.size) (Lo.of_out oW) (Nat.le_refl _)).low (HO2.out.trans oW).size⟩
      have HK := hid_mk hK
      have HL := hid_mk (And.intro hn (And.intro hL (And.intro hs (And.intro hDn (And.intro hkn hnf64)))))
      have HOW := hid_mk (HO2.out.trans oW)
      have e1 : ((nf : Int) != (nf : Int)) = false := by simp
      have e2 : ((nf : Int) == 0) = false := by simp; omega
      clear z1 z2 hokP hSl hDl hfn hnf hk hf hD hK hS cs cd hbD o2 hqf f0 f1 f2 f3 f4 hn hDn hL hs oW bW o12 k0 k1 k2 HB1 HCk
      go_wp2_with fail
      (try rw [hW])
      (try rw [hg7])
      clear hW hg7
      refine (alive_any (HT.out.out HOW.out (.inr rfl))).mono ?_
      rintro e w3 ⟨rfl, o3⟩
      have m0 := (HC.out.2.1.kept o3 (.inr (Nat.zero_le _))).cell (i := 0) rfl
      have m1 := (HC.out.2.1.kept o3 (.inr (Nat.zero_le _))).cell (i := 1) rfl
      have p2 := (HC.out.1.kept o3 (.inr (Nat.zero_le _))).cell (i := 2) rfl
      have c1 := o3.cell HC.out.2.2.1 (.inr (Nat.zero_le _))
      have c2 := o3.cell HC.out.2.2.2.1 (.inr (Nat.zero_le _))
      have c3 := o3.cell HC.out.2.2.2.2.1 (.inr (Nat.zero_le _))
      have c4 := o3.cell HC.out.2.2.2.2.2.1 (.inr (Nat.zero_le _))
      have HO3 := hid_mk o3
      have hkn2 : (k : Int) < (nf : Int) := by omega
      have hkn3 : k < nf := hkn
      have d1 : ((n : Int) != (n : Int)) = false := by simp
      have d2 : decide (s < L) = false := by have := HL.out.2.2.1; have := mx_nn D; simp; omega
      have d3 : decide (128 < s) = false := by have := HL.out.2.2.1; have := HL.out.2.1; have := HK.out.mx; have := HK.out.2.2.2; simp; omega
      clear o3
      go_wp2_with (go_at_call 14; refine calls_same (HWi.out _) ?_)
      go_region
      go_wp2
      clear e1 e2 d1 d2 d3 c2 c4 m0 m1 p2 c1 c3 HWi
      go_loopw [13, 14, 15, 16] (fun dv iv tv sv wr => ∃ (st tu : Nat) (d i : Int), sv = .int .i64 st ∧ st ≤ 3000 ∧ tv = .int .i64 tu ∧ tu ≤ np ∧ dv = .int .i64 d ∧ iv = .int .i64 i ∧ (i = -1 ∨ ∃ j : Nat, i = (j : Int) ∧ D[j]? = some d ∧ 0 ≤ d) ∧ Out 0 0 W wr) (fun _ _ _ sv _ => 3000 - (intOf sv).toNat)
      case atStart => exact ⟨0, 0, 0, 0, rfl, by omega, rfl, Nat.zero_le _, rfl, rfl, .inr ⟨0, rfl, HK.out.1.2.2.1, by decide⟩, HO3.out.drew⟩
      case round =>
        obtain ⟨st, tu, d, i, rfl, hst, rfl, htu, rfl, rfl, hi, ho⟩ := hrel
        by_cases hs0 : st < 3000
        · have s1 : decide ((st : Int) < 3000) = true := by simp; omega
          have s2 : decide (st < 3000) = true := by simpa using hs0
          have HST := hid_mk (And.intro hs0 htu)
          have hsw : Hid (wrap64 ((st : Int) + 1) = ((st + 1 : Nat) : Int)) := hid_mk (up_w hs0 (by omega))
          rcases hi with rfl | ⟨j, rfl, hdj, hd0⟩
          · have HO4 := hid_mk ho
            clear ho hs0 hst htu hsw
            go_wp2
            go_ret
            exact ⟨rfl, HOW.out.trans HO4.out⟩
          · obtain ⟨hn, hL, hs, hDn, hkn', h64⟩ := HL.out
            have hjn : j < n := by have := (List.getElem?_eq_some_iff.1 hdj).1; omega
            obtain ⟨⟨op, a⟩, hx⟩ : ∃ y, f.2.2.2[j]? = some y := ⟨_, List.getElem?_eq_getElem (by omega)⟩
            obtain ⟨w1', w2', w3', w4', w5'⟩ := way_step HK.out hx hdj hd0
            have hOk := HK.out.2.1 _ (List.mem_of_getElem? hx)
            obtain ⟨qc, oc, rfl, hqc, i0, i1⟩ := in_cells (HC.out.2.2.2.2.2.2.2.kept (C := W.heap.size) (Lo.of_out ho) (Nat.le_refl _)) hx
            have HEf := hid_mk (fun w' (z1 : FnIn w' w.heap.size (some ⟨qf, off, none⟩) fs) (z2 : w.heap.size ≤ w'.heap.size) => effect_any (w := w') (B := w.heap.size) x ta nt tc (some ⟨qf, off, none⟩) nf fc hOk z1 HH.out.2.2.2.1 z2)
            have htk := hOk.2.2.2.2
            generalize tkV fs (op, a) = t at *
            have hpu := And.intro (pt_nn op) (pt_le op)
            generalize ptV op = u at *
            obtain ⟨y, hy⟩ : ∃ y, d - t = y := ⟨_, rfl⟩
            obtain ⟨d', hd'⟩ : ∃ d', y + u = d' := ⟨_, rfl⟩
            rw [hy] at w2' w3' w4' w5'
            rw [hd'] at w3' w4' w5'
            have q1 : wrap64 (d - t) = y := by unfold wrap64; omega
            have q2 : wrap64 (y + u) = d' := by unfold wrap64; omega
            have q3 : decide (d < t) = false := by simp; omega
            have q4 : decide (64 < d') = false := by simp; omega
            have q5 : decide ((n : Int) ≤ (j : Int)) = false := by simp; omega
            have q6 : decide (n ≤ j) = false := by simp; omega
            have q7 : (d != d) = false := by simp
            have q8 : (j : Int) < (n : Int) := by omega
            have q9 : decide ((0 : Int) ≤ (j : Int)) = true := by simp
            have dj := iv_cell (HC.out.2.2.2.2.2.2.1.kept ho (.inr (Nat.zero_le _))) hdj
            have m0 := (HC.out.2.1.kept ho (.inr (Nat.zero_le _))).cell (i := 0) rfl
            have m1 := (HC.out.2.1.kept ho (.inr (Nat.zero_le _))).cell (i := 1) rfl
            have p0 := (HC.out.1.kept ho (.inr (Nat.zero_le _))).cell (i := 0) rfl
            have p1 := (HC.out.1.kept ho (.inr (Nat.zero_le _))).cell (i := 1) rfl
            have p2 := (HC.out.1.kept ho (.inr (Nat.zero_le _))).cell (i := 2) rfl
            have c1 := ho.cell HC.out.2.2.1 (.inr (Nat.zero_le _))
            have c2 := ho.cell HC.out.2.2.2.1 (.inr (Nat.zero_le _))
            have c3 := ho.cell HC.out.2.2.2.2.1 (.inr (Nat.zero_le _))
            have HO4 := hid_mk ho
            have HW := hid_mk (And.intro w2' (And.intro w4' w5'))
            have HJN := hid_mk (And.intro hjn (And.intro hdj (And.intro hd0 (And.intro w3' (And.intro hpu.1 HK.out.2.2.1)))))
            have HFS := hid_mk ((HH.out.2.1).kept (C := w.heap.size) (Lo.of_out (HOW.out.trans ho)) (Nat.le_refl _))
            have HSZ := hid_mk (HOW.out.trans ho).size
            have HLS := hid_mk (And.intro hs (And.intro hL HK.out.2.2.2))
            have HYD := hid_mk hd'
            clear hn hL hs hDn hkn' h64 hdj hd0 hjn hx w1' w2' w3' w4' w5' hOk hqc ho htk hpu hy hd' hs0 hst htu
            rcases hgb : goB op with _ | _
            · by_cases hop : op = 14
              · have HA : Hid (D[a.toNat]? = some d' ∧ a = (a.toNat : Int)) := hid_mk (by obtain ⟨z1, z2, z3⟩ := HW.out.2.2 (by rw [hop]; rfl); exact ⟨z3, by omega⟩)
                have hyd : Hid (y + u = d') := HYD
                have n14 : (op == 14) = true := by simpa using hop
                have n15 : (op == 15) = false := by simp; omega
                clear hop
                go_wp2_with fail
                refine wp_region_held_drew (S := fun w' => w'.cell? ⟨b, 0, none⟩ = some (.int .i64 x) ∧ w'.cell? ⟨b, 1, none⟩ = some (.slice ta nt tc) ∧ w'.cell? ⟨b, 2, none⟩ = some (.slice (some ⟨qf, off, none⟩) nf fc) ∧ w'.cell? ⟨qc, oc + j * 2, none⟩ = some (.int .i64 op) ∧ w'.cell? ⟨qc, oc + j * 2 + 1, none⟩ = some (.int .i64 a)) (by kernel_rfl) ?hS1 (fun hHeld => ?rest1)
                case hS1 => exact ⟨p0, p1, p2, i0, i1⟩
                refine tk 0 ?_
                refine tk 1 ?_
                refine tk 2 ?_
                refine tk 3 ?_
                refine tk 4 ?_
                refine wpAnyH_ready (rs := [5]) (by kernel_rfl) (by simp) ?_
                refine AllReadyH.cons rfl (fun KK hK => ?_) AllReadyH.nil
                simp only [xa, xb, xc]
                go_simp
                refine (HEf.out _ (HFS.out.kept (C := w.heap.size) (Lo.of_out ((Out.refl 0 0 wr).drew)) (Nat.le_refl _)) HSZ.out).mono ?_
                rintro e w9 ⟨he, o8⟩
                rw [hgb] at he
                subst he
                have o9 : Out 0 0 wr w9 := ((Out.refl 0 0 wr).drew).trans o8
                clear o8
                refine hK.out _ _ ?hS7 (fun hHeld2 => ?rest7)
                case hS7 => exact ⟨o9.cell p0 (.inr (Nat.zero_le _)), o9.cell p1 (.inr (Nat.zero_le _)), o9.cell p2 (.inr (Nat.zero_le _)), o9.cell i0 (.inr (Nat.zero_le _)), o9.cell i1 (.inr (Nat.zero_le _))⟩
                clear hK KK
                (try clear hHeld)
                have hHeld := hHeld2
                clear hHeld2
                (try simp only [Act.put, xa, xb, xc, xd, xe, xf])
                refine tk 6 ?_
                refine tk 7 ?_
                refine tk 8 ?_
                refine tk 9 ?_
                refine tk 10 ?_
                refine tk 11 ?_
                refine tk 12 ?_
                refine wpAnyH_done (by kernel_rfl) ?_ _
                clear hHeld
                replace p2 := o9.cell p2 (.inr (Nat.zero_le _))
                replace i0 := o9.cell i0 (.inr (Nat.zero_le _))
                replace i1 := o9.cell i1 (.inr (Nat.zero_le _))
                replace m0 := o9.cell m0 (.inr (Nat.zero_le _))
                replace c1 := o9.cell c1 (.inr (Nat.zero_le _))
                replace c3 := o9.cell c3 (.inr (Nat.zero_le _))
                have HO9 := hid_mk (HO4.out.trans o9)
                clear o9 p0 p1 m1 c2 dj HEf HFS
                go_wp2_with fail
                go_region
                go_wp2
                exact ⟨⟨st + 1, tu, d', a, by rw [hsw.out], HST.out.1, rfl, HST.out.2, by rw [q2], rfl, .inr ⟨a.toNat, HA.out.2, HA.out.1, nn_of HW.out.1 HJN.out.2.2.2.2.1 hyd.out⟩, HO9.out.drew⟩, by rw [hsw.out]; exact ms_n HST.out.1⟩
              · have h14 := hop
                by_cases h15 : op = 15
                · rw [h15] at hgb; cases hgb
                · have n14 : (op == 14) = false := by simpa using h14
                  have n15 : (op == 15) = false := by simpa using h15
                  go_wp2_with fail
                  refine wp_region_held_drew (S := fun w' => w'.cell? ⟨b, 0, none⟩ = some (.int .i64 x) ∧ w'.cell? ⟨b, 1, none⟩ = some (.slice ta nt tc) ∧ w'.cell? ⟨b, 2, none⟩ = some (.slice (some ⟨qf, off, none⟩) nf fc) ∧ w'.cell? ⟨qc, oc + j * 2, none⟩ = some (.int .i64 op) ∧ w'.cell? ⟨qc, oc + j * 2 + 1, none⟩ = some (.int .i64 a)) (by kernel_rfl) ?hS15 (fun hHeld => ?rest15)
                  case hS15 => exact ⟨p0, p1, p2, i0, i1⟩
                  refine tk 0 ?_
                  refine tk 1 ?_
                  refine tk 2 ?_
                  refine tk 3 ?_
                  refine tk 4 ?_
                  refine wpAnyH_ready (rs := [5]) (by kernel_rfl) (by simp) ?_
                  refine AllReadyH.cons rfl (fun KK hK => ?_) AllReadyH.nil
                  simp only [xa, xb, xc]
                  go_simp
                  refine (HEf.out _ (HFS.out.kept (C := w.heap.size) (Lo.of_out ((Out.refl 0 0 wr).drew)) (Nat.le_refl _)) HSZ.out).mono ?_
                  rintro e w9 ⟨he, o8⟩
                  rw [hgb] at he
                  subst he
                  have o9 : Out 0 0 wr w9 := ((Out.refl 0 0 wr).drew).trans o8
                  clear o8
                  refine hK.out _ _ ?hS21 (fun hHeld2 => ?rest21)
                  case hS21 => exact ⟨o9.cell p0 (.inr (Nat.zero_le _)), o9.cell p1 (.inr (Nat.zero_le _)), o9.cell p2 (.inr (Nat.zero_le _)), o9.cell i0 (.inr (Nat.zero_le _)), o9.cell i1 (.inr (Nat.zero_le _))⟩
                  clear hK KK
                  (try clear hHeld)
                  have hHeld := hHeld2
                  clear hHeld2
                  (try simp only [Act.put, xa, xb, xc, xd, xe, xf])
                  refine tk 6 ?_
                  refine tk 7 ?_
                  refine tk 8 ?_
                  refine tk 9 ?_
                  refine tk 10 ?_
                  refine tk 11 ?_
                  refine tk 12 ?_
                  refine wpAnyH_done (by kernel_rfl) ?_ _
                  clear hHeld
                  replace p2 := o9.cell p2 (.inr (Nat.zero_le _))
                  replace i0 := o9.cell i0 (.inr (Nat.zero_le _))
                  replace i1 := o9.cell i1 (.inr (Nat.zero_le _))
                  replace m0 := o9.cell m0 (.inr (Nat.zero_le _))
                  replace c1 := o9.cell c1 (.inr (Nat.zero_le _))
                  replace c3 := o9.cell c3 (.inr (Nat.zero_le _))
                  have HO9 := hid_mk (HO4.out.trans o9)
                  clear o9 p0 p1 m1 c2 dj HEf HFS
                  go_wp2_with fail
                  go_region
                  go_wp2
                  exact ⟨⟨st + 1, tu, d', -1, by rw [hsw.out], HST.out.1, rfl, HST.out.2, by rw [q2], rfl, .inl rfl, HO9.out.drew⟩, by rw [hsw.out]; exact ms_n HST.out.1⟩
            · by_cases h14 : op = 14
              · rw [h14] at hgb; cases hgb
              · by_cases hop : op = 15
                · have HA : Hid (D[a.toNat]? = some d' ∧ a = (a.toNat : Int)) := hid_mk (by obtain ⟨z1, z2, z3⟩ := HW.out.2.2 (by rw [hop]; rfl); exact ⟨z3, by omega⟩)
                  have hyd : Hid (y + u = d') := HYD
                  have hjw : Hid (wrap64 ((j : Int) + 1) = ((j + 1 : Nat) : Int)) := hid_mk (up_w HJN.out.1 (by have := HL.out.1; have := HJN.out.2.2.2.2.2; omega))
                  have n14 : (op == 14) = false := by simp; omega
                  have n15 : (op == 15) = true := by simpa using hop
                  clear hop h14
                  by_cases htp : tu < np
                  · obtain ⟨t1, t2⟩ := lt_dec htp
                    obtain ⟨pv, hpv⟩ : ∃ pv, pk[tu]? = some pv := ⟨_, List.getElem?_eq_getElem (by have := HP.out.1; omega)⟩
                    obtain ⟨qp, op', rfl, cp⟩ : ∃ q off, pa = some ⟨q, off, none⟩ ∧ ∀ (j : Nat) x, pk[j]? = some x → w.cell? ⟨q, off + j, none⟩ = some (.int .i64 x) := by
                      rcases HP.out.2 with c | c
                      · rw [c] at hpv; simp at hpv
                      · exact c
                    have hpc := cp tu pv hpv
                    have htn : Hid (tu + 1 ≤ np) := hid_mk htp
                    have htw : Hid (wrap64 ((tu : Int) + 1) = ((tu + 1 : Nat) : Int)) := hid_mk (tu_w HNP.out htp)
                    have htp2 : (tu : Int) < (np : Int) := by omega
                    have HPC := hid_mk hpc
                    clear cp hpv htp hpc
                    rcases hbj : (pv.tmod 2 != 0) with _ | _
                    · go_wp2_with fail
                      refine wp_region_held_drew (S := fun w' => w'.cell? ⟨b, 0, none⟩ = some (.int .i64 x) ∧ w'.cell? ⟨b, 1, none⟩ = some (.slice ta nt tc) ∧ w'.cell? ⟨b, 2, none⟩ = some (.slice (some ⟨qf, off, none⟩) nf fc) ∧ w'.cell? ⟨qc, oc + j * 2, none⟩ = some (.int .i64 op) ∧ w'.cell? ⟨qc, oc + j * 2 + 1, none⟩ = some (.int .i64 a)) (by kernel_rfl) ?hS29 (fun hHeld => ?rest29)
                      case hS29 => exact ⟨p0, p1, p2, i0, i1⟩
                      refine tk 0 ?_
                      refine tk 1 ?_
                      refine tk 2 ?_
                      refine tk 3 ?_
                      refine tk 4 ?_
                      refine wpAnyH_ready (rs := [5]) (by kernel_rfl) (by simp) ?_
                      refine AllReadyH.cons rfl (fun KK hK => ?_) AllReadyH.nil
                      simp only [xa, xb, xc]
                      go_simp
                      refine (HEf.out _ (HFS.out.kept (C := w.heap.size) (Lo.of_out ((Out.refl 0 0 wr).drew)) (Nat.le_refl _)) HSZ.out).mono ?_
                      rintro e w9 ⟨he, o8⟩
                      rw [hgb] at he
                      subst he
                      have o9 : Out 0 0 wr w9 := ((Out.refl 0 0 wr).drew).trans o8
                      clear o8
                      refine hK.out _ _ ?hS35 (fun hHeld2 => ?rest35)
                      case hS35 => exact ⟨o9.cell p0 (.inr (Nat.zero_le _)), o9.cell p1 (.inr (Nat.zero_le _)), o9.cell p2 (.inr (Nat.zero_le _)), o9.cell i0 (.inr (Nat.zero_le _)), o9.cell i1 (.inr (Nat.zero_le _))⟩
                      clear hK KK
                      (try clear hHeld)
                      have hHeld := hHeld2
                      clear hHeld2
                      (try simp only [Act.put, xa, xb, xc, xd, xe, xf])
                      refine tk 6 ?_
                      refine tk 7 ?_
                      refine tk 8 ?_
                      refine tk 9 ?_
                      refine tk 10 ?_
                      refine tk 11 ?_
                      refine tk 12 ?_
                      refine wpAnyH_done (by kernel_rfl) ?_ _
                      clear hHeld
                      replace p2 := o9.cell p2 (.inr (Nat.zero_le _))
                      replace i0 := o9.cell i0 (.inr (Nat.zero_le _))
                      replace i1 := o9.cell i1 (.inr (Nat.zero_le _))
                      replace m0 := o9.cell m0 (.inr (Nat.zero_le _))
                      replace c1 := o9.cell c1 (.inr (Nat.zero_le _))
                      have hpc := (HOW.out.trans (HO4.out.trans o9)).cell HPC.out (.inr (Nat.zero_le _))
                      replace c3 := o9.cell c3 (.inr (Nat.zero_le _))
                      have HO9 := hid_mk (HO4.out.trans o9)
                      clear o9 p0 p1 m1 c2 dj HEf HFS
                      go_wp2_with fail
                      have qv : IntKind.i64.wrap (L + d') = L + d' := sl_w HLS.out.2.1 HLS.out.2.2 HJN.out.2.2.2.1 HW.out.1 HJN.out.2.2.2.2.1 HYD.out
                      have qs : decide (s < L + d') = false := by have := (HW.out.2.1 hgb).2.2; have := HLS.out.1; simp; omega
                      go_region
                      go_wp2
                      exact ⟨⟨st + 1, tu + 1, d', ((j + 1 : Nat) : Int), by rw [hsw.out], HST.out.1, by rw [htw.out], htn.out, by rw [q2], by rw [hjw.out], .inr ⟨j + 1, rfl, (HW.out.2.1 hgb).2.1, nn_of HW.out.1 HJN.out.2.2.2.2.1 hyd.out⟩, HO9.out.drew⟩, by rw [hsw.out]; exact ms_n HST.out.1⟩
                    · go_wp2_with fail
                      refine wp_region_held_drew (S := fun w' => w'.cell? ⟨b, 0, none⟩ = some (.int .i64 x) ∧ w'.cell? ⟨b, 1, none⟩ = some (.slice ta nt tc) ∧ w'.cell? ⟨b, 2, none⟩ = some (.slice (some ⟨qf, off, none⟩) nf fc) ∧ w'.cell? ⟨qc, oc + j * 2, none⟩ = some (.int .i64 op) ∧ w'.cell? ⟨qc, oc + j * 2 + 1, none⟩ = some (.int .i64 a)) (by kernel_rfl) ?hS43 (fun hHeld => ?rest43)
                      case hS43 => exact ⟨p0, p1, p2, i0, i1⟩
                      refine tk 0 ?_
                      refine tk 1 ?_
                      refine tk 2 ?_
                      refine tk 3 ?_
                      refine tk 4 ?_
                      refine wpAnyH_ready (rs := [5]) (by kernel_rfl) (by simp) ?_
                      refine AllReadyH.cons rfl (fun KK hK => ?_) AllReadyH.nil
                      simp only [xa, xb, xc]
                      go_simp
                      refine (HEf.out _ (HFS.out.kept (C := w.heap.size) (Lo.of_out ((Out.refl 0 0 wr).drew)) (Nat.le_refl _)) HSZ.out).mono ?_
                      rintro e w9 ⟨he, o8⟩
                      rw [hgb] at he
                      subst he
                      have o9 : Out 0 0 wr w9 := ((Out.refl 0 0 wr).drew).trans o8
                      clear o8
                      refine hK.out _ _ ?hS49 (fun hHeld2 => ?rest49)
                      case hS49 => exact ⟨o9.cell p0 (.inr (Nat.zero_le _)), o9.cell p1 (.inr (Nat.zero_le _)), o9.cell p2 (.inr (Nat.zero_le _)), o9.cell i0 (.inr (Nat.zero_le _)), o9.cell i1 (.inr (Nat.zero_le _))⟩
                      clear hK KK
                      (try clear hHeld)
                      have hHeld := hHeld2
                      clear hHeld2
                      (try simp only [Act.put, xa, xb, xc, xd, xe, xf])
                      refine tk 6 ?_
                      refine tk 7 ?_
                      refine tk 8 ?_
                      refine tk 9 ?_
                      refine tk 10 ?_
                      refine tk 11 ?_
                      refine tk 12 ?_
                      refine wpAnyH_done (by kernel_rfl) ?_ _
                      clear hHeld
                      replace p2 := o9.cell p2 (.inr (Nat.zero_le _))
                      replace i0 := o9.cell i0 (.inr (Nat.zero_le _))
                      replace i1 := o9.cell i1 (.inr (Nat.zero_le _))
                      replace m0 := o9.cell m0 (.inr (Nat.zero_le _))
                      replace c1 := o9.cell c1 (.inr (Nat.zero_le _))
                      have hpc := (HOW.out.trans (HO4.out.trans o9)).cell HPC.out (.inr (Nat.zero_le _))
                      replace c3 := o9.cell c3 (.inr (Nat.zero_le _))
                      have HO9 := hid_mk (HO4.out.trans o9)
                      clear o9 p0 p1 m1 c2 dj HEf HFS
                      go_wp2_with fail
                      have qv : IntKind.i64.wrap (L + d') = L + d' := sl_w HLS.out.2.1 HLS.out.2.2 HJN.out.2.2.2.1 HW.out.1 HJN.out.2.2.2.2.1 HYD.out
                      have qs : decide (s < L + d') = false := by have := (HW.out.2.1 hgb).2.2; have := HLS.out.1; simp; omega
                      go_region
                      go_wp2
                      exact ⟨⟨st + 1, tu + 1, d', a, by rw [hsw.out], HST.out.1, by rw [htw.out], htn.out, by rw [q2], rfl, .inr ⟨a.toNat, HA.out.2, HA.out.1, nn_of HW.out.1 HJN.out.2.2.2.2.1 hyd.out⟩, HO9.out.drew⟩, by rw [hsw.out]; exact ms_n HST.out.1⟩
                  · obtain ⟨t1, t2⟩ := ge_dec htp
                    clear htp
                    go_wp2_with fail
                    refine wp_region_held_drew (S := fun w' => w'.cell? ⟨b, 0, none⟩ = some (.int .i64 x) ∧ w'.cell? ⟨b, 1, none⟩ = some (.slice ta nt tc) ∧ w'.cell? ⟨b, 2, none⟩ = some (.slice (some ⟨qf, off, none⟩) nf fc) ∧ w'.cell? ⟨qc, oc + j * 2, none⟩ = some (.int .i64 op) ∧ w'.cell? ⟨qc, oc + j * 2 + 1, none⟩ = some (.int .i64 a)) (by kernel_rfl) ?hS57 (fun hHeld => ?rest57)
                    case hS57 => exact ⟨p0, p1, p2, i0, i1⟩
                    refine tk 0 ?_
                    refine tk 1 ?_
                    refine tk 2 ?_
                    refine tk 3 ?_
                    refine tk 4 ?_
                    refine wpAnyH_ready (rs := [5]) (by kernel_rfl) (by simp) ?_
                    refine AllReadyH.cons rfl (fun KK hK => ?_) AllReadyH.nil
                    simp only [xa, xb, xc]
                    go_simp
                    refine (HEf.out _ (HFS.out.kept (C := w.heap.size) (Lo.of_out ((Out.refl 0 0 wr).drew)) (Nat.le_refl _)) HSZ.out).mono ?_
                    rintro e w9 ⟨he, o8⟩
                    rw [hgb] at he
                    subst he
                    have o9 : Out 0 0 wr w9 := ((Out.refl 0 0 wr).drew).trans o8
                    clear o8
                    refine hK.out _ _ ?hS63 (fun hHeld2 => ?rest63)
                    case hS63 => exact ⟨o9.cell p0 (.inr (Nat.zero_le _)), o9.cell p1 (.inr (Nat.zero_le _)), o9.cell p2 (.inr (Nat.zero_le _)), o9.cell i0 (.inr (Nat.zero_le _)), o9.cell i1 (.inr (Nat.zero_le _))⟩
                    clear hK KK
                    (try clear hHeld)
                    have hHeld := hHeld2
                    clear hHeld2
                    (try simp only [Act.put, xa, xb, xc, xd, xe, xf])
                    refine tk 6 ?_
                    refine tk 7 ?_
                    refine tk 8 ?_
                    refine tk 9 ?_
                    refine tk 10 ?_
                    refine tk 11 ?_
                    refine tk 12 ?_
                    refine wpAnyH_done (by kernel_rfl) ?_ _
                    clear hHeld
                    replace p2 := o9.cell p2 (.inr (Nat.zero_le _))
                    replace i0 := o9.cell i0 (.inr (Nat.zero_le _))
                    replace i1 := o9.cell i1 (.inr (Nat.zero_le _))
                    replace m0 := o9.cell m0 (.inr (Nat.zero_le _))
                    replace c1 := o9.cell c1 (.inr (Nat.zero_le _))
                    replace c3 := o9.cell c3 (.inr (Nat.zero_le _))
                    have HO9 := hid_mk (HO4.out.trans o9)
                    clear o9 p0 p1 m1 c2 dj HEf HFS
                    go_wp2_with fail
                    have qv : IntKind.i64.wrap (L + d') = L + d' := sl_w HLS.out.2.1 HLS.out.2.2 HJN.out.2.2.2.1 HW.out.1 HJN.out.2.2.2.2.1 HYD.out
                    have qs : decide (s < L + d') = false := by have := (HW.out.2.1 hgb).2.2; have := HLS.out.1; simp; omega
                    go_region
                    go_wp2
                    exact ⟨⟨st + 1, tu, d', ((j + 1 : Nat) : Int), by rw [hsw.out], HST.out.1, rfl, HST.out.2, by rw [q2], by rw [hjw.out], .inr ⟨j + 1, rfl, (HW.out.2.1 hgb).2.1, nn_of HW.out.1 HJN.out.2.2.2.2.1 hyd.out⟩, HO9.out.drew⟩, by rw [hsw.out]; exact ms_n HST.out.1⟩
                · have h15 := hop
                  have n14 : (op == 14) = false := by simpa using h14
                  have n15 : (op == 15) = false := by simpa using h15
                  have hjw : Hid (wrap64 ((j : Int) + 1) = ((j + 1 : Nat) : Int)) := hid_mk (up_w HJN.out.1 (by have := HL.out.1; have := HJN.out.2.2.2.2.2; omega))
                  have hyd : Hid (y + u = d') := HYD
                  go_wp2_with fail
                  refine wp_region_held_drew (S := fun w' => w'.cell? ⟨b, 0, none⟩ = some (.int .i64 x) ∧ w'.cell? ⟨b, 1, none⟩ = some (.slice ta nt tc) ∧ w'.cell? ⟨b, 2, none⟩ = some (.slice (some ⟨qf, off, none⟩) nf fc) ∧ w'.cell? ⟨qc, oc + j * 2, none⟩ = some (.int .i64 op) ∧ w'.cell? ⟨qc, oc + j * 2 + 1, none⟩ = some (.int .i64 a)) (by kernel_rfl) ?hS71 (fun hHeld => ?rest71)
                  case hS71 => exact ⟨p0, p1, p2, i0, i1⟩
                  refine tk 0 ?_
                  refine tk 1 ?_
                  refine tk 2 ?_
                  refine tk 3 ?_
                  refine tk 4 ?_
                  refine wpAnyH_ready (rs := [5]) (by kernel_rfl) (by simp) ?_
                  refine AllReadyH.cons rfl (fun KK hK => ?_) AllReadyH.nil
                  simp only [xa, xb, xc]
                  go_simp
                  refine (HEf.out _ (HFS.out.kept (C := w.heap.size) (Lo.of_out ((Out.refl 0 0 wr).drew)) (Nat.le_refl _)) HSZ.out).mono ?_
                  rintro e w9 ⟨he, o8⟩
                  rw [hgb] at he
                  subst he
                  have o9 : Out 0 0 wr w9 := ((Out.refl 0 0 wr).drew).trans o8
                  clear o8
                  refine hK.out _ _ ?hS77 (fun hHeld2 => ?rest77)
                  case hS77 => exact ⟨o9.cell p0 (.inr (Nat.zero_le _)), o9.cell p1 (.inr (Nat.zero_le _)), o9.cell p2 (.inr (Nat.zero_le _)), o9.cell i0 (.inr (Nat.zero_le _)), o9.cell i1 (.inr (Nat.zero_le _))⟩
                  clear hK KK
                  (try clear hHeld)
                  have hHeld := hHeld2
                  clear hHeld2
                  (try simp only [Act.put, xa, xb, xc, xd, xe, xf])
                  refine tk 6 ?_
                  refine tk 7 ?_
                  refine tk 8 ?_
                  refine tk 9 ?_
                  refine tk 10 ?_
                  refine tk 11 ?_
                  refine tk 12 ?_
                  refine wpAnyH_done (by kernel_rfl) ?_ _
                  clear hHeld
                  replace p2 := o9.cell p2 (.inr (Nat.zero_le _))
                  replace i0 := o9.cell i0 (.inr (Nat.zero_le _))
                  replace i1 := o9.cell i1 (.inr (Nat.zero_le _))
                  replace m0 := o9.cell m0 (.inr (Nat.zero_le _))
                  replace c1 := o9.cell c1 (.inr (Nat.zero_le _))
                  replace c3 := o9.cell c3 (.inr (Nat.zero_le _))
                  have HO9 := hid_mk (HO4.out.trans o9)
                  clear o9 p0 p1 m1 c2 dj HEf HFS
                  go_wp2_with fail
                  have qv : IntKind.i64.wrap (L + d') = L + d' := sl_w HLS.out.2.1 HLS.out.2.2 HJN.out.2.2.2.1 HW.out.1 HJN.out.2.2.2.2.1 HYD.out
                  have qs : decide (s < L + d') = false := by have := (HW.out.2.1 hgb).2.2; have := HLS.out.1; simp; omega
                  go_region
                  go_wp2
                  exact ⟨⟨st + 1, tu, d', ((j + 1 : Nat) : Int), by rw [hsw.out], HST.out.1, rfl, HST.out.2, by rw [q2], by rw [hjw.out], .inr ⟨j + 1, rfl, (HW.out.2.1 hgb).2.1, nn_of HW.out.1 HJN.out.2.2.2.2.1 hyd.out⟩, HO9.out.drew⟩, by rw [hsw.out]; exact ms_n HST.out.1⟩
        · have s1 : decide ((st : Int) < 3000) = false := by simp; omega
          have s2 : decide (st < 3000) = false := by simpa using hs0
          have HO4 := hid_mk ho
          clear ho hs0 hst htu hi
          go_wp2
          go_ret
          exact ⟨rfl, HOW.out.trans HO4.out⟩
    · have hne : (er != 0) = true := by simpa using ck_ne z1
      have HO2 := hid_mk (HO1.out.trans o2)
      clear o2 z1 k0 k1 k2
      have HB7 := hid_mk (Bl.new w2 #[.slice none 0 0, .slice none 0 0] 41)
      have HO7 := hid_mk (HO2.out.trans ((Out.refl 0 0 w2).alloc (.cells #[.slice none 0 0, .slice none 0 0] 41)))
      go_wp2_with fail
      refine (alive_any (HT.out.out HO7.out (.inr rfl))).mono ?_
      rintro e w3 ⟨rfl, o3⟩
      replace HB7 := hid_mk (HB7.out.kept o3 (.inr (Nat.zero_le _)))
      replace HO7 := hid_mk (HO7.out.trans o3)
      clear o3
      go_wp2_with fail
      refine (alive_any (HT.out.out HO7.out (.inr rfl))).mono ?_
      rintro e w4 ⟨rfl, o4⟩
      have s0 := (HB7.out.kept o4 (.inr (Nat.zero_le _))).cell (i := 0) rfl
      have s1 := (HB7.out.kept o4 (.inr (Nat.zero_le _))).cell (i := 1) rfl
      replace HO7 := hid_mk (HO7.out.trans o4)
      clear o4
      go_wp2
      go_ret
      exact ⟨rfl, HO7.out⟩
end Go.Proofs.YtagnpedkomehaaaDoor
namespace Go.Proofs.YtagnpedkomehaaaDoor.checkWalks
open Go.ChangeShapes Go.WideShapes Go.ChangeAt Go.RowKit Go.Deep
set_option linter.unusedVariables false

theorem walk {H : Type} {enc : TypeId × Value → H} {W : World} {f0 f2 : Nat} {v0 v2 : Value} {x0 x2 : DataW H × List MemPlace} (hv0 : ∃ cs : Array Value, v0 = .agg cs) (h0 : DataW.trod enc Tryd.prog W 0 (fun _ => true) true f0 25 v0.cells.toList = some x0)
    (x1 : Int) (w1 : (Lit.int .i64 x1).wf = true)
    (h2 : DataW.trod enc Tryd.prog W 0 (fun _ => true) true f2 38 v2.cells.toList = some x2) (hv2 : ∃ a len cap, v2 = .slice a len cap) (hT : Ty W) (hw0 : ∀ n ∈ x0.1.weights Tryd.prog 25, n ≤ reachBytes) (hw2 : ∀ n ∈ x2.1.weights Tryd.prog 38, n ≤ reachBytes) :
    Calls Tryd.prog 5 #[v0, .int .i64 x1, v2] W fun e w' => e = .returned (.bool true) ∧ Below W.heap.size W w' := by
  obtain ⟨g, ta, fa, ts, fs, tc, fc, rfl, k1, k2, k3, k4, k5, k6⟩ := open_prog hv0 h0 hw0
  obtain ⟨a, len, cap, rfl⟩ := hv2
  obtain ⟨p, L, cp, e, hB, hl⟩ := open_ints h2 hw2
  have e' : Value.slice a len cap = .slice p L.length cp := by simpa [Value.cells] using e
  rw [e']
  have big : ∀ {k : Nat}, k ≤ 140737488351232 → Lim k := fun h => by unfold Lim; omega
  exact (walks_any hT g ts fs ta fa _ tc _ fc rfl rfl k1 k2 (fun f hf => (k5 f hf).1) (big k4) (big k6) (fun t ht => big (k3 t ht)) (fun f hf => big (k5 f hf).2) x1 (i64_bounds w1) L p _ cp rfl hB (big hl)).mono fun e w' h => ⟨h.1, h.2.all⟩

set_option maxRecDepth 100000 in
theorem lifted (os : Os) (started : os.Started) (H : Type) (enc : TypeId × Value → H) :
    ReturnsInHanded {} Tryd.checked os 5 .any (fun w args => (Rows.checkWalksSpec.pre enc Tryd.prog Tryd.f5 [] false w args ∧ laidMetH Tryd.prog laidL w) ∧ sizedMet enc Tryd.prog Tryd.f5 (OpenSpec.ofChange Rows.checkWalksSpec) false w args)
      (Rows.checkWalksSpec.post enc Tryd.prog Tryd.f5 false true false false) := by
  refine returnsInHanded_of_change_and (C := Tryd.checked) (X := fun w _ => laidMetH Tryd.prog laidL w) (fun _ _ _ hh h => h.of_heap hh) own started (by kernel_rfl) Tryd.func5
    (ChangeSpec.witness_at (enc := enc) (C := Tryd.checked) (os := os) (X := fun w _ => laidMetH Tryd.prog laidL w) false (laidWorld os) #[.agg #[.int .i64 0, .slice none 0 0, .slice none 0 0], .int .i64 0, .slice none 0 0] 8 rfl (by kernel_rfl) (by kernel_rfl) (by kernel_rfl) (by kernel_rfl) (by kernel_rfl) (door_met os _)) ?_
  intro W base args ds gs before hval0 hW _ hsz hL _
  have hval : ∀ (j : Nat) t v, Tryd.f5.params[j]? = some t → args[j]? = some v → Value.okWide Tryd.prog W .any base t v := hval0
  have hW' := hW
  obtain ⟨p, q, hA0, hV, rfl, hfz, hnd⟩ := hW
  have hA : DataW.TrodAll enc Tryd.prog W 0 (fun _ => true) true Tryd.f5.params.toList args.toList ds p := hA0
  have hT := tab_of_laid hL
  rw [Tryd.params5] at hA hval
  obtain ⟨v0, vs0, d0, ds0, p0, q0, hargs, rfl, rfl, h0, r0⟩ := trodAll_cons hA
  obtain ⟨v1, vs1, d1, ds1, p1, q1, rfl, rfl, rfl, h1, r1⟩ := trodAll_cons r0
  obtain ⟨v2, vs2, d2, ds2, p2, q2, rfl, rfl, rfl, h2, r2⟩ := trodAll_cons r1
  obtain ⟨rfl, rfl, rfl⟩ := trodAll_nil r2
  obtain rfl : args = #[v0, v1, v2] := by cases args; simp_all
  obtain ⟨rfl, rfl⟩ := trodVars_none hV
  have hlt0 : ∀ x ∈ p0, x.block < W.heap.size := fun x hx => by simpa using hW'.lt x (by simp [hx])
  have h0k := h0
  have hlt1 : ∀ x ∈ p1, x.block < W.heap.size := fun x hx => by simpa using hW'.lt x (by simp [hx])
  have h1k := h1
  have hlt2 : ∀ x ∈ p2, x.block < W.heap.size := fun x hx => by simpa using hW'.lt x (by simp [hx])
  have h2k := h2
  obtain ⟨cs0, hv0, _⟩ := okWide_struct Tryd.underlying25 (hval 0 25 v0 rfl rfl)
  obtain ⟨fuel0, hf0⟩ := h0
  obtain ⟨a1, hv1, _, _, w1⟩ := open_int Tryd.underlying3 (hval 1 3 v1 rfl rfl) h1
  obtain ⟨a2, len2, cap2, hv2⟩ := okWide_slice Tryd.underlying38 (hval 2 38 v2 rfl rfl)
  obtain ⟨fuel2, hf2⟩ := h2
  clear hA0 hval0
  subst hv1
  refine (walk ⟨cs0, hv0⟩ hf0 a1 w1 hf2 ⟨a2, len2, cap2, hv2⟩ hT (fun n hn => by simpa using List.all_eq_true.1 hsz n (DataW.weights_mem_each (j := 0) (t := 25) (by rw [Tryd.params5]; rfl) rfl n hn)) (fun n hn => by simpa using List.all_eq_true.1 hsz n (DataW.weights_mem_each (j := 2) (t := 38) (by rw [Tryd.params5]; rfl) rfl n hn))).mono fun e W' ⟨he, hg⟩ => ?_
  subst he
  exact ⟨_, rfl, _, _, _, [], _, [], hW', (trodAll_cons_mk (shut_bool Tryd.underlying4 _) trodAll_mk0), (trodAll_cons_mk (Below.trod laid_out (by kernel_rfl) (of_decide_eq_true (by kernel_rfl)) h0k hg hlt0) (trodAll_cons_mk (Below.trod laid_out (by kernel_rfl) (of_decide_eq_true (by kernel_rfl)) h1k hg hlt1) (trodAll_cons_mk (Below.trod laid_out (by kernel_rfl) (of_decide_eq_true (by kernel_rfl)) h2k hg hlt2) trodAll_mk0))), rfl, hg.frame _, fun h => by cases h⟩

theorem over : Rows.CheckWalksSaid :=
  OpenClaim.holds_of_wide 5 Tryd.f5 rfl rfl rfl rfl rfl rfl rfl ⟨rfl, rfl, rfl, rfl, rfl⟩ rfl rfl rfl rfl rfl (by kernel_rfl) Tryd.func5 (by kernel_rfl)
    (of_decide_eq_true (by kernel_rfl)) (by unfold Func.isWrapper; first | (rw [if_pos (by decide +kernel)]; kernel_rfl) | (rw [if_neg (by decide +kernel)]; exact ⟨rfl, rfl⟩))
    (fun os started H enc _ => lifted os started H enc)

/-- ████ THE STATEMENT: THE TIED CARD ████ -/
theorem proved : Rows.CheckWalksCardSaid :=
  Claim7.holds_tied_plain_at .later [] [.handle] true (true, "3dd13925f7aa1acc2bcc7da09e673a5b27b8a119b8073a66d8eab31672a5bc45") true
    over (fun _ h => by cases h) (by kernel_rfl) (fun _ h => by cases h) checkWalks_row_tie rfl ⟨rfl, rfl⟩ (by kernel_rfl) rfl
    (fun f fn hf hfn => by
      obtain rfl : f = 5 := Option.some.inj ((show Tryd.prog.funcNamed "hearth/hearthlaw19.CheckWalks" = some 5 by kernel_rfl).symm.trans hf) |>.symm
      obtain rfl : fn = Tryd.f5 := (Option.some.inj (Tryd.func5.symm.trans hfn)).symm
      exact ⟨by kernel_rfl, fun j t ht => by
        rw [Tryd.params5] at ht
        have hm : t ∈ [25, 3, 38] := by simpa using Array.mem_of_getElem? ht
        have hall : ([25, 3, 38].all fun u => !Tryd.prog.wantsStandIn u) = true := by kernel_rfl
        exact (show Tryd.prog.wantsStandIn t = false by simpa using List.all_eq_true.1 hall t hm)⟩)
    (by kernel_rfl)
#print axioms proved
end Go.Proofs.YtagnpedkomehaaaDoor.checkWalks
