/- the law: CodePlace -/
import Derived.Test.YtnekepeojadhaaaDoorUtd
namespace Go.Proofs.YtnekepeojadhaaaDoor
open Go.RowKit
set_option linter.unusedVariables false
set_option linter.unusedSimpArgs false

theorem own_blk {w : World} {base n cap : Nat} {a : Option Addr} {t : List Int} (hn : 0 < n) (h : w.ownsRow base 5 1 (.slice a n cap) n (bvs t)) : ∃ g, a = some ⟨g, 0, none⟩ ∧ base ≤ g ∧ ∃ cur, Bl w g cur 5 ∧ n ≤ cap ∧ ∀ (j : Nat) x, t[j]? = some x → cur[j]? = some (.int .u8 x) := by
  have hl := h.1
  rw [bvs_len] at hl
  rcases h.2 with ⟨e, h0⟩ | ⟨g, c2, cur, e, h1, h2, h3, h4, h5, h6⟩
  · omega
  · cases e
    refine ⟨g, rfl, h1, cur, h2, h3, fun j x hj => ?_⟩
    have hj' := (List.getElem?_eq_some_iff.1 hj).1
    have e8 : (cur.toList.take (n * 1))[j]? = (bvs t)[j]? := by rw [h6]
    unfold bvs at e8
    rw [List.getElem?_map, hj, List.getElem?_take, if_pos (by omega)] at e8
    simpa using e8
theorem set_by {w : World} {g : Nat} {cur : Array Value} {t : List Int} (k : Nat) (hbl : Bl w g cur 5) (hcur : ∀ (j : Nat) x, t[j]? = some x → cur[j]? = some (.int .u8 x)) (hB : Byt t) (y : Int) (hy : 0 ≤ y ∧ y ≤ 255) : ByIn (w.setCell ⟨g, k, none⟩ (.int .u8 y)) (w.setCell ⟨g, k, none⟩ (.int .u8 y)).heap.size (some ⟨g, 0, none⟩) (t.set k y) := by
  refine ⟨fun b hb => ?_, .inr ⟨g, 0, rfl, by rw [size_set]; exact hbl.lt, fun j x hj => ?_⟩⟩
  · rcases List.mem_or_eq_of_mem_set hb with h | rfl
    · exact hB b h
    · exact hy
  · rw [Nat.zero_add]
    refine (hbl.set k (.int .u8 y)).cell ?_
    rw [List.getElem?_set] at hj
    by_cases hkj : k = j
    · subst hkj
      rw [if_pos rfl] at hj
      split at hj
      · next hk =>
        cases hj
        have h9 := hcur k _ (List.getElem?_eq_getElem hk)
        have hs := (Array.getElem?_eq_some_iff.1 h9).1
        simp [hs]
      · cases hj
    · rw [if_neg hkj] at hj
      have h9 := hcur j _ hj
      simp [hkj, h9]
theorem set_iff {E : List Int} {k : Nat} {y t : Int} (h : E[k]? = some y) : E.set k t = E ↔ t = y := by
  constructor
  · intro e
    have hk := (List.getElem?_eq_some_iff.1 h).1
    have h9 : (E.set k t)[k]? = some t := by rw [List.getElem?_set, if_pos rfl, if_pos hk]
    rw [e, h] at h9
    exact (Option.some.inj h9).symm
  · rintro rfl
    obtain ⟨hk, rfl⟩ := List.getElem?_eq_some_iff.1 h
    exact List.set_getElem_self hk
set_option maxRecDepth 100000 in
set_option maxHeartbeats 40000000 in
theorem place_any {w : World} (hT : Ty w) (x : Int) (ts : List (List Int)) (fs : List (Int × Int × Int × List (Int × Int))) (ta fa : Option Addr) (nt tc nf fc : Nat) (hnt : ts.length = nt) (hnf : fs.length = nf) (hts : TxIn w w.heap.size ta ts) (hfs : FnIn w w.heap.size fa fs) (hM : ∀ f ∈ fs, MI f.2.2.2)
    (h1 : Lim nt) (h2 : Lim nf) (h3 : ∀ t ∈ ts, Lim t.length) (h4 : ∀ f ∈ fs, Lim f.2.2.2.length) (c : Int) (hc64 : -9223372036854775808 ≤ c ∧ c ≤ 9223372036854775807) (t : Int) (hto : 0 ≤ t ∧ t ≤ 255) (ba : Option Addr) (n cap : Nat) (bs : List Int) (hin : ByIn w w.heap.size ba bs) (hn : bs.length = n) (hc : n ≤ cap) :
    Calls Tryd.prog 8 #[.slice ba n cap, .agg #[.int .i64 x, .slice ta nt tc, .slice fa nf fc], .int .i64 c, .int .u8 t] w fun e w' => e = .returned (.bool true) ∧ Out 0 0 w w' := by
  have HA := hid_mk (Bl.new w #[.int .i64 x, .slice ta nt tc, .slice fa nf fc] 25)
  have HO := hid_mk ((Out.refl 0 0 w).alloc (.cells #[.int .i64 x, .slice ta nt tc, .slice fa nf fc] 25))
  obtain ⟨V, hV⟩ : ∃ V, w.alloc (.cells #[.int .i64 x, .slice ta nt tc, .slice fa nf fc] 25) = V := ⟨_, rfl⟩
  rw [hV] at HA HO
  have HTy := hid_mk hT
  obtain ⟨p, hp⟩ : ∃ p, w.heap.size = p := ⟨_, rfl⟩
  rw [hp] at HA hts hfs hin
  have hpl : Hid (p ≤ V.heap.size) := hid_mk (by have := HA.out.lt; omega)
  have HT := hid_mk (hts.kept (Lo.of_out HO.out) (Nat.le_refl _))
  have HF := hid_mk (hfs.kept (Lo.of_out HO.out) (Nat.le_refl _))
  have HI := hid_mk (hin.kept (Lo.of_out HO.out) (Nat.le_refl _))
  have HN := hid_mk (And.intro hnt (And.intro hnf (And.intro hn hc)))
  have HM := hid_mk hM
  have HC := hid_mk hc64
  have HTo := hid_mk hto
  have HFt := hid_mk (fits_any x ts fs ta fa nt nf tc fc hnt hnf HT.out HF.out h1 h2 h3 h4)
  have HBt := hid_mk (wr_byt (P := (x, ts, fs)) (tx_byt HT.out))
  have a0 := HA.out.cell (i := 0) rfl
  have a1 := HA.out.cell (i := 1) rfl
  have a2 := HA.out.cell (i := 2) rfl
  clear hts hfs hnt hnf h1 h2 h3 h4 hT hin hn hc hM hc64 hto
  go_enter Tryd.func8, Tryd.ntmps8
  go_wp2_with fail
  (try rw [hV])
  (try rw [hp])
  clear hV hp a0 a1 a2
  refine HFt.out.mono ?_
  rintro e w1 ⟨⟨b, rfl, hb⟩, o1⟩
  cases b with
  | false =>
    have HO1 := hid_mk (HO.out.trans o1)
    clear o1 hb
    go_wp2_with (go_at_call 10; refine (alive_any (HTy.out.out HO1.out (.inr rfl))).mono ?_; rintro e w2 ⟨rfl, o2⟩)
    go_ret
    exact ⟨rfl, HO1.out.trans o2⟩
  | true =>
    have HO1 := hid_mk (HO.out.trans o1)
    have HV1 := hid_mk o1
    clear o1 hb
    by_cases hL : (300000 : Int) < (n : Int)
    · have hd : decide ((300000 : Int) < (n : Int)) = true := by simpa using hL
      clear hL
      go_wp2_with (go_at_call 10; refine (alive_any (HTy.out.out HO1.out (.inr rfl))).mono ?_; rintro e w2 ⟨rfl, o2⟩)
      go_ret
      exact ⟨rfl, HO1.out.trans o2⟩
    · have hd : decide ((300000 : Int) < (n : Int)) = false := by simpa using hL
      clear hL
      go_wp2_with fail
      refine (read_any (HTy.out.out HO1.out (.inr rfl)) (Nat.le_trans hpl.out HV1.out.size) (HI.out.kept (Lo.of_out HV1.out) (Nat.le_refl _)) HN.out.2.2.1 HN.out.2.2.2).mono ?_
      intro e w2 hq
      by_cases hn6 : n ≤ 65536
      · rcases hw : wholeR bs with ⟨xe, q⟩ | ⟨x2, ts2, fs2⟩
        · obtain ⟨o2, rfl⟩ := rd_err hq hn6 hw
          have HVa := hid_mk ((HV1.out.trans o2).alloc (.cells #[.int .i64 0, .slice none 0 0, .slice none 0 0] 25))
          have HOa := hid_mk ((HO1.out.trans o2).alloc (.cells #[.int .i64 0, .slice none 0 0, .slice none 0 0] 25))
          clear o2 hq
          rcases whole_ends hw with ⟨h61, hqq⟩ | ⟨h60, hql, hsub⟩
          · subst h61
            obtain rfl : n = q := by rw [hqq, HN.out.2.2.1]
            have hnn : ((n : Int) != (n : Int)) = false := by simp
            have HVk := HVa
            have HOk := HOa
            clear hw hn6 hqq HVa HOa
            have bA := kept0 HA.out HVk.out
            have a0 := bA.cell (i := 0) rfl
            have a1 := bA.cell (i := 1) rfl
            have a2 := bA.cell (i := 2) rfl
            clear bA
            go_wp2_with fail
            refine (write_at (HTy.out.out HOk.out (.inr rfl)) (Nat.le_trans hpl.out HVk.out.size) x ts fs ta fa nt tc nf fc HN.out.1 HN.out.2.1 (HT.out.kept (Lo.of_out HVk.out) (Nat.le_refl _)) (HF.out.kept (Lo.of_out HVk.out) (Nat.le_refl _)) HM.out HBt.out).mono ?_
            rintro e wB ⟨ra, K, cap2, rfl, oB, hb2, hK2, hc2⟩
            clear a0 a1 a2
            have HVB := hid_mk (HVk.out.trans oB)
            have HOB := hid_mk (HOk.out.trans oB)
            clear oB HVk HOk
            by_cases hgood : okP (x, ts, fs) ∧ (encP (x, ts, fs)).length ≤ 65536
            · obtain ⟨hok, hlen⟩ := hgood
              have hw2 := wr_ok hok hlen
              rw [hw2.2] at hb2 hK2
              rw [hw2.1]
              obtain ⟨E, hE⟩ : ∃ E, encP (x, ts, fs) = E := ⟨_, rfl⟩
              rw [hE] at hb2 hK2
              have HTurn : Hid (∀ k, k < E.length → ∀ (y : Int) (xe : Int) (q : Nat), wholeR (E.set k y) = .inl (xe, q) → k ≤ q + 8) := hid_mk fun k hk y xe q h => by rw [← hE] at hk h; exact whole_turned hok hk y h
              have HRd : Hid (wholeR E = .inr (x, ts, fs)) := hid_mk (by rw [← hE]; exact rd_wr hok)
              have HDif : Hid (∀ (d : List Int) P, Byt d → wholeR d = .inr P → (P = (x, ts, fs) ↔ d = E)) := hid_mk fun d P hB h => by
                obtain ⟨k1, k2⟩ := wr_rd hB h
                constructor
                · rintro rfl; rw [← k2, hE]
                · intro e; exact enc_inj k1 hok (by rw [k2, e, hE])
              have HKl : Hid (K ≤ 65536 ∧ 0 < K) := hid_mk (by
                have h0 : 4 ≤ E.length := by rw [← hE]; unfold encP; rw [List.length_append]; simp
                rw [hE] at hlen; omega)
              rcases hb2.2 with h0 | ⟨g2, off2, rfl, hg2, hcc2⟩
              · exfalso; rw [h0] at hK2; have := HKl.out; simp at hK2; omega
              have HB2 := hid_mk hb2
              have HCc := hid_mk hcc2
              have HK2 := hid_mk hK2
              have HC2 := hid_mk hc2
              have HEB : Hid (Byt E) := hid_mk hb2.1
              clear hok hlen hw2 hb2 hK2 hc2 hE hcc2 hg2
              have hK0 : ((K : Int) == 0) = false := by have := HKl.out; simp; omega
              have hkp : (0 : Int) < (K : Int) := by have := HKl.out; omega
              obtain ⟨k, hk⟩ : ∃ k, wiV c K = k := ⟨_, rfl⟩
              have HkK : Hid (k < K) := hid_mk (by rw [← hk]; exact wi_lt HKl.out.2)
              have HWi : Hid (∀ W : World, Calls Tryd.prog 17 #[.int .i64 c, .int .i64 K] W fun e w' => e = .returned (.int .i64 (k : Int)) ∧ w' = W) := hid_mk fun W => by rw [← hk]; exact within_any c K HKl.out.2 HC.out
              clear hk
              obtain ⟨y, hy⟩ : ∃ y, E[k]? = some y := ⟨_, List.getElem?_eq_getElem (by rw [HK2.out]; exact HkK.out)⟩
              have HY := hid_mk hy
              clear hy
              go_wp2_with (first
                | (go_at_call 10; refine (alive_any (HTy.out.out HOB.out (.inr rfl))).mono ?_; rintro e w3 ⟨rfl, o3⟩; have HO3 := hid_mk (HOB.out.trans o3); have HP3 := hid_mk o3; clear o3)
                | (go_at_call 17; refine calls_same (HWi.out _) ?_)
                | (at_builtin; refine app_step (base := w3.heap.size) (bs := []) (x := E) rfl _ _ rfl rfl rfl (World.ownsRow_nil _ _ _ 1) (Nat.le_refl _) (HB2.out.kept (Lo.of_out HP3.out) (Nat.le_refl _)).bytes HK2.out (by omega) (by have := HKl.out; omega) ?_))
              intro a6 c6 w6 q1 q2 q3
              (try rw [Nat.zero_add, List.nil_append] at q1)
              (try rw [Nat.zero_add])
              obtain ⟨g6, hg6, hge6, cur, hbl, hcc, hcur⟩ := own_blk HKl.out.2 q1
              subst hg6
              have HB6 := hid_mk (set_by k hbl hcur HEB.out t HTo.out)
              have HP6 := hid_mk ((nil_out q2).setCell (p := ⟨g6, k, none⟩) (.inr hge6) (.int .u8 t))
              have HC6 := hid_mk hcc
              have c6k := hbl.cell (hcur k y HY.out)
              have f6k := hbl.frozen k
              have hkK : (k : Int) < (K : Int) := by have := HkK.out; omega
              have hK6 : (K : Int) ≤ 65536 := by have := HKl.out; omega
              clear q1 q2 q3 hcur hge6 hcc hbl
              go_wp2_with fail
              clear c6k f6k
              refine (read_any (HTy.out.out (HO3.out.trans HP6.out) (.inr rfl)) (Nat.le_refl _) HB6.out (by rw [List.length_set]; exact HK2.out) HC6.out).mono ?_
              intro e w7 hq
              rcases hw : wholeR (E.set k t) with ⟨xe, q⟩ | ⟨x3, ts3, fs3⟩
              · obtain ⟨o7, rfl⟩ := rd_err hq HKl.out.1 hw
                have hx : (xe != 0) = true := by rcases whole_ends hw with c | c <;> (rw [c.1]; decide)
                have hkq := HTurn.out k (by rw [HK2.out]; exact HkK.out) t xe q hw
                have hne : t ≠ y := fun e => by rw [(set_iff HY.out).2 e, HRd.out] at hw; cases hw
                have hty : (t != y) = true := by simpa using hne
                have hge : decide ((k : Int) - 8 ≤ (q : Int)) = true := by simp; omega
                have HO7 := hid_mk (((HO3.out.trans HP6.out).trans o7).alloc (.cells #[.int .i64 0, .slice none 0 0, .slice none 0 0] 25))
                have d1 := cell0 (HCc.out k y HY.out) (((HP3.out.trans HP6.out).trans o7).alloc (.cells #[.int .i64 0, .slice none 0 0, .slice none 0 0] 25))
                clear hq hw o7 hne hkq
                go_wp2_with fail
                go_ret
                exact ⟨rfl, HO7.out⟩
              · obtain ⟨o7, gt3, gf3, hp7, rfl⟩ := rd_ok hq HKl.out.1 hw
                have hiff := (HDif.out _ _ HB6.out.1 hw).trans (set_iff HY.out)
                have hbig := ok_big (wr_rd HB6.out.1 hw).1
                obtain ⟨n3, hn3⟩ : ∃ k, ts3.length = k := ⟨_, rfl⟩
                obtain ⟨m3, hm3⟩ : ∃ k, fs3.length = k := ⟨_, rfl⟩
                have hbig' : (n3 : Int) ≤ 400000 ∧ (m3 : Int) ≤ 400000 ∧ ∀ f ∈ fs3, (f.2.2.2.length : Int) ≤ 400000 := by rw [← hn3, ← hm3]; exact hbig
                rw [hn3, hm3]
                have HBig := hid_mk hbig'
                have HIff := hid_mk hiff
                have HN3 := hid_mk (And.intro hn3 hm3)
                have oA : Out 0 0 w7 (w7.alloc (.cells #[.int .i64 x3, .slice (some ⟨gt3, 0, none⟩) n3 n3, .slice (some ⟨gf3, 0, none⟩) m3 m3] 25)) := (Out.refl 0 0 w7).alloc _
                have HP7 := hid_mk (hp7.kept oA (Nat.zero_le _))
                have HPA := hid_mk (((HP3.out.trans HP6.out).trans o7).trans oA)
                have HO7 := hid_mk ((HO3.out.trans HP6.out).trans (o7.trans oA))
                have HVA := hid_mk (HVB.out.trans HPA.out)
                have bq := Bl.new w7 #[.int .i64 x3, .slice (some ⟨gt3, 0, none⟩) n3 n3, .slice (some ⟨gf3, 0, none⟩) m3 m3] 25
                have HBq := hid_mk bq
                clear hq hw o7 hp7 hbig hbig' hiff hn3 hm3 oA
                obtain ⟨W7, hW7⟩ : ∃ W7, w7.alloc (.cells #[.int .i64 x3, .slice (some ⟨gt3, 0, none⟩) n3 n3, .slice (some ⟨gf3, 0, none⟩) m3 m3] 25) = W7 := ⟨_, rfl⟩
                obtain ⟨g7, hg7⟩ : ∃ g7, w7.heap.size = g7 := ⟨_, rfl⟩
                go_wp2_with fail
                rw [hW7] at HP7 HPA HO7 HVA HBq bq
                rw [hg7] at HBq bq
                (try rw [hW7])
                (try rw [hg7])
                clear hW7 hg7
                have bA := kept0 HA.out HVA.out
                have d1 := cell0 (HCc.out k y HY.out) HPA.out
                have hcz : Hid (∀ wr, Out 0 0 W7 wr → wr.cell? ⟨g7, 0, none⟩ = some (.int .i64 x3) ∧ wr.cell? ⟨g7, 1, none⟩ = some (.slice (some ⟨gt3, 0, none⟩) n3 n3) ∧ wr.cell? ⟨g7, 2, none⟩ = some (.slice (some ⟨gf3, 0, none⟩) m3 m3) ∧ wr.cell? ⟨p, 0, none⟩ = some (.int .i64 x) ∧ wr.cell? ⟨p, 1, none⟩ = some (.slice ta nt tc) ∧ wr.cell? ⟨p, 2, none⟩ = some (.slice fa nf fc) ∧ wr.cell? ⟨g2, off2 + k, none⟩ = some (.int .u8 y)) := hid_mk fun wr o => ⟨(kept0 HBq.out o).cell (i := 0) rfl, (kept0 HBq.out o).cell (i := 1) rfl, (kept0 HBq.out o).cell (i := 2) rfl, (kept0 (kept0 HA.out HVA.out) o).cell (i := 0) rfl, (kept0 (kept0 HA.out HVA.out) o).cell (i := 1) rfl, (kept0 (kept0 HA.out HVA.out) o).cell (i := 2) rfl, cell0 (cell0 (HCc.out k y HY.out) HPA.out) o⟩
                clear bA d1 bq
                refine wp_region_held_drew (S := fun wr => wr.cell? ⟨g7, 0, none⟩ = some (.int .i64 x3) ∧ wr.cell? ⟨g7, 1, none⟩ = some (.slice (some ⟨gt3, 0, none⟩) n3 n3) ∧ wr.cell? ⟨g7, 2, none⟩ = some (.slice (some ⟨gf3, 0, none⟩) m3 m3) ∧ wr.cell? ⟨p, 0, none⟩ = some (.int .i64 x) ∧ wr.cell? ⟨p, 1, none⟩ = some (.slice ta nt tc) ∧ wr.cell? ⟨p, 2, none⟩ = some (.slice fa nf fc) ∧ wr.cell? ⟨g2, off2 + k, none⟩ = some (.int .u8 y)) (by kernel_rfl) (hcz.out _ (Out.refl 0 0 _)) (fun hHeld => ?_)
                refine tk 0 ?_
                refine tk 1 ?_
                refine tk 3 ?_
                refine tk 4 ?_
                refine tk 5 ?_
                refine tk 6 ?_
                refine tk 7 ?_
                refine tk 8 ?_
                refine wpAnyH_ready (rs := [2]) (by kernel_rfl) (by simp) ?_
                refine AllReadyH.cons rfl (fun KK hK => ?_) AllReadyH.nil
                simp only [xa, xb, xc]
                go_simp
                have o8 : Out 0 0 W7 W7.drew := (Out.refl 0 0 W7).drew
                have hsz8 : p ≤ W7.drew.heap.size := Nat.le_trans hpl.out (HVA.out.trans o8).size
                have hp8 := HP7.out.kept o8 (Nat.zero_le _)
                refine (same_any x3 x ts3 ts fs3 fs (some ⟨gt3, 0, none⟩) ta (some ⟨gf3, 0, none⟩) fa n3 nt m3 nf n3 tc m3 fc HN3.out.1 HN.out.1 HN3.out.2 HN.out.2.1 hp8.tx ((HT.out.kept (Lo.of_out (HVA.out.trans o8)) (Nat.le_refl _)).up hsz8) hp8.fn ((HF.out.kept (Lo.of_out (HVA.out.trans o8)) (Nat.le_refl _)).up hsz8) HBig.out).mono ?_
                rintro e w9 ⟨⟨bb, rfl, hbb⟩, o9⟩
                refine hK.out _ _ (hcz.out _ (o8.trans o9)) (fun _ => ?_)
                have HO9 := hid_mk (HO7.out.trans (o8.trans o9))
                clear o8 hsz8 hp8 o9
                by_cases hty : t = y
                · have hbt : bb = true := hbb.2 (HIff.out.2 hty)
                  have hte : (t == y) = true := by simpa using hty
                  subst hbt
                  clear hbb hty
                  refine tk 9 ?_
                  refine tk 10 ?_
                  refine wpAnyH_done (by kernel_rfl) ?_ _
                  go_wp2
                  go_ret
                  exact ⟨rfl, HO9.out⟩
                · have hbt : bb = false := by
                    cases bb with
                    | false => rfl
                    | true => exact absurd (HIff.out.1 (hbb.1 rfl)) hty
                  have hte : (t == y) = false := by simpa using hty
                  subst hbt
                  clear hbb hty
                  refine tk 9 ?_
                  refine tk 10 ?_
                  refine wpAnyH_done (by kernel_rfl) ?_ _
                  go_wp2
                  go_ret
                  exact ⟨rfl, HO9.out⟩
            · have hE0 : ∃ E : Int, wrE (x, ts, fs) = E ∧ (E != 0) = true := by
                by_cases hok : okP (x, ts, fs)
                · exact ⟨2, (wr_long hok (by rcases Nat.lt_or_ge 65536 (encP (x, ts, fs)).length with q | q; exact q; exact absurd ⟨hok, q⟩ hgood)).1, by decide⟩
                · exact ⟨62, (wr_form hok).1, by decide⟩
              obtain ⟨E, hE, hE1⟩ := hE0
              rw [hE]
              clear hE hgood hb2 hK2 hc2
              go_wp2_with (go_at_call 10; refine (alive_any (HTy.out.out HOB.out (.inr rfl))).mono ?_; rintro e w3 ⟨rfl, o3⟩; have HOB := hid_mk (HOB.out.trans o3); clear o3)
              go_ret
              exact ⟨rfl, HOB.out⟩
          · subst h60
            have HSub := hid_mk hsub
            have HQl : Hid (q < n ∧ n ≤ 65536) := hid_mk ⟨by rw [← HN.out.2.2.1]; exact hql, hn6⟩
            have hlt : q < n := HQl.out.1
            obtain ⟨A', C', hsl, hA'⟩ := slice_to ba n cap q (by have := HQl.out; have := HN.out.2.2.2; omega)
            have HA2 := hid_mk hA'
            clear hA' hsub hql hw hn6
            go_wp2_with (at_builtin; refine app_step (base := (w2.alloc (.cells #[.int .i64 0, .slice none 0 0, .slice none 0 0] 25)).heap.size) (bs := []) (x := (bs.drop 0).take q) rfl _ _ rfl rfl rfl (World.ownsRow_nil _ _ _ 1) (Nat.le_refl _) (piece_in (HI.out.kept (Lo.of_out HVa.out) (Nat.le_refl _)) HN.out.2.2.1 (by have := HQl.out; omega) HN.out.2.2.2 HA2.out).bytes (by rw [List.drop_zero, List.length_take, HN.out.2.2.1]; have := HQl.out; omega) (by omega) (by have := HQl.out; omega) ?_)
            intro a4 c4 w4 q1 q2 q3
            (try rw [Nat.zero_add, List.nil_append, List.drop_zero] at q1)
            (try rw [List.drop_zero] at q1)
            (try rw [Nat.zero_add])
            obtain ⟨hb4, hc4⟩ := own_by (w := w2.alloc (.cells #[.int .i64 0, .slice none 0 0, .slice none 0 0] 25)) (HI.out.1.take q) (by rw [size_alloc]; exact q1)
            have HV4 := hid_mk (HVa.out.trans (nil_out q2))
            have HO4 := hid_mk (HOa.out.trans (nil_out q2))
            have HB4 := hid_mk hb4
            have HC4 := hid_mk hc4
            clear q1 q2 q3 hb4 hc4 hsl
            go_wp2_with fail
            refine (read_any (HTy.out.out HO4.out (.inr rfl)) (Nat.le_refl _) HB4.out (by rw [List.length_take, HN.out.2.2.1]; have := HQl.out; omega) HC4.out).mono ?_
            intro e w5 hq
            rcases HSub.out with hs | ⟨⟨x2, ts2, fs2⟩, hs⟩
            · obtain ⟨o5, rfl⟩ := rd_err hq (by have := HQl.out; omega) hs
              have HVk := hid_mk ((HV4.out.trans o5).alloc (.cells #[.int .i64 0, .slice none 0 0, .slice none 0 0] 25))
              have HOk := hid_mk ((HO4.out.trans o5).alloc (.cells #[.int .i64 0, .slice none 0 0, .slice none 0 0] 25))
              have hqq : ((q : Int) != (q : Int)) = false := by simp
              clear hq hs o5 HVa HOa HV4 HO4 HB4 HC4 HA2
              have bA := kept0 HA.out HVk.out
              have a0 := bA.cell (i := 0) rfl
              have a1 := bA.cell (i := 1) rfl
              have a2 := bA.cell (i := 2) rfl
              clear bA
              go_wp2_with fail
              refine (write_at (HTy.out.out HOk.out (.inr rfl)) (Nat.le_trans hpl.out HVk.out.size) x ts fs ta fa nt tc nf fc HN.out.1 HN.out.2.1 (HT.out.kept (Lo.of_out HVk.out) (Nat.le_refl _)) (HF.out.kept (Lo.of_out HVk.out) (Nat.le_refl _)) HM.out HBt.out).mono ?_
              rintro e wB ⟨ra, K, cap2, rfl, oB, hb2, hK2, hc2⟩
              clear a0 a1 a2
              have HVB := hid_mk (HVk.out.trans oB)
              have HOB := hid_mk (HOk.out.trans oB)
              clear oB HVk HOk
              by_cases hgood : okP (x, ts, fs) ∧ (encP (x, ts, fs)).length ≤ 65536
              · obtain ⟨hok, hlen⟩ := hgood
                have hw2 := wr_ok hok hlen
                rw [hw2.2] at hb2 hK2
                rw [hw2.1]
                obtain ⟨E, hE⟩ : ∃ E, encP (x, ts, fs) = E := ⟨_, rfl⟩
                rw [hE] at hb2 hK2
                have HTurn : Hid (∀ k, k < E.length → ∀ (y : Int) (xe : Int) (q : Nat), wholeR (E.set k y) = .inl (xe, q) → k ≤ q + 8) := hid_mk fun k hk y xe q h => by rw [← hE] at hk h; exact whole_turned hok hk y h
                have HRd : Hid (wholeR E = .inr (x, ts, fs)) := hid_mk (by rw [← hE]; exact rd_wr hok)
                have HDif : Hid (∀ (d : List Int) P, Byt d → wholeR d = .inr P → (P = (x, ts, fs) ↔ d = E)) := hid_mk fun d P hB h => by
                  obtain ⟨k1, k2⟩ := wr_rd hB h
                  constructor
                  · rintro rfl; rw [← k2, hE]
                  · intro e; exact enc_inj k1 hok (by rw [k2, e, hE])
                have HKl : Hid (K ≤ 65536 ∧ 0 < K) := hid_mk (by
                  have h0 : 4 ≤ E.length := by rw [← hE]; unfold encP; rw [List.length_append]; simp
                  rw [hE] at hlen; omega)
                rcases hb2.2 with h0 | ⟨g2, off2, rfl, hg2, hcc2⟩
                · exfalso; rw [h0] at hK2; have := HKl.out; simp at hK2; omega
                have HB2 := hid_mk hb2
                have HCc := hid_mk hcc2
                have HK2 := hid_mk hK2
                have HC2 := hid_mk hc2
                have HEB : Hid (Byt E) := hid_mk hb2.1
                clear hok hlen hw2 hb2 hK2 hc2 hE hcc2 hg2
                have hK0 : ((K : Int) == 0) = false := by have := HKl.out; simp; omega
                have hkp : (0 : Int) < (K : Int) := by have := HKl.out; omega
                obtain ⟨k, hk⟩ : ∃ k, wiV c K = k := ⟨_, rfl⟩
                have HkK : Hid (k < K) := hid_mk (by rw [← hk]; exact wi_lt HKl.out.2)
                have HWi : Hid (∀ W : World, Calls Tryd.prog 17 #[.int .i64 c, .int .i64 K] W fun e w' => e = .returned (.int .i64 (k : Int)) ∧ w' = W) := hid_mk fun W => by rw [← hk]; exact within_any c K HKl.out.2 HC.out
                clear hk
                obtain ⟨y, hy⟩ : ∃ y, E[k]? = some y := ⟨_, List.getElem?_eq_getElem (by rw [HK2.out]; exact HkK.out)⟩
                have HY := hid_mk hy
                clear hy
                go_wp2_with (first
                  | (go_at_call 10; refine (alive_any (HTy.out.out HOB.out (.inr rfl))).mono ?_; rintro e w3 ⟨rfl, o3⟩; have HO3 := hid_mk (HOB.out.trans o3); have HP3 := hid_mk o3; clear o3)
                  | (go_at_call 17; refine calls_same (HWi.out _) ?_)
                  | (at_builtin; refine app_step (base := w3.heap.size) (bs := []) (x := E) rfl _ _ rfl rfl rfl (World.ownsRow_nil _ _ _ 1) (Nat.le_refl _) (HB2.out.kept (Lo.of_out HP3.out) (Nat.le_refl _)).bytes HK2.out (by omega) (by have := HKl.out; omega) ?_))
                intro a6 c6 w6 q1 q2 q3
                (try rw [Nat.zero_add, List.nil_append] at q1)
                (try rw [Nat.zero_add])
                obtain ⟨g6, hg6, hge6, cur, hbl, hcc, hcur⟩ := own_blk HKl.out.2 q1
                subst hg6
                have HB6 := hid_mk (set_by k hbl hcur HEB.out t HTo.out)
                have HP6 := hid_mk ((nil_out q2).setCell (p := ⟨g6, k, none⟩) (.inr hge6) (.int .u8 t))
                have HC6 := hid_mk hcc
                have c6k := hbl.cell (hcur k y HY.out)
                have f6k := hbl.frozen k
                have hkK : (k : Int) < (K : Int) := by have := HkK.out; omega
                have hK6 : (K : Int) ≤ 65536 := by have := HKl.out; omega
                clear q1 q2 q3 hcur hge6 hcc hbl
                go_wp2_with fail
                clear c6k f6k
                refine (read_any (HTy.out.out (HO3.out.trans HP6.out) (.inr rfl)) (Nat.le_refl _) HB6.out (by rw [List.length_set]; exact HK2.out) HC6.out).mono ?_
                intro e w7 hq
                rcases hw : wholeR (E.set k t) with ⟨xe, q⟩ | ⟨x3, ts3, fs3⟩
                · obtain ⟨o7, rfl⟩ := rd_err hq HKl.out.1 hw
                  have hx : (xe != 0) = true := by rcases whole_ends hw with c | c <;> (rw [c.1]; decide)
                  have hkq := HTurn.out k (by rw [HK2.out]; exact HkK.out) t xe q hw
                  have hne : t ≠ y := fun e => by rw [(set_iff HY.out).2 e, HRd.out] at hw; cases hw
                  have hty : (t != y) = true := by simpa using hne
                  have hge : decide ((k : Int) - 8 ≤ (q : Int)) = true := by simp; omega
                  have HO7 := hid_mk (((HO3.out.trans HP6.out).trans o7).alloc (.cells #[.int .i64 0, .slice none 0 0, .slice none 0 0] 25))
                  have d1 := cell0 (HCc.out k y HY.out) (((HP3.out.trans HP6.out).trans o7).alloc (.cells #[.int .i64 0, .slice none 0 0, .slice none 0 0] 25))
                  clear hq hw o7 hne hkq
                  go_wp2_with fail
                  go_ret
                  exact ⟨rfl, HO7.out⟩
                · obtain ⟨o7, gt3, gf3, hp7, rfl⟩ := rd_ok hq HKl.out.1 hw
                  have hiff := (HDif.out _ _ HB6.out.1 hw).trans (set_iff HY.out)
                  have hbig := ok_big (wr_rd HB6.out.1 hw).1
                  obtain ⟨n3, hn3⟩ : ∃ k, ts3.length = k := ⟨_, rfl⟩
                  obtain ⟨m3, hm3⟩ : ∃ k, fs3.length = k := ⟨_, rfl⟩
                  have hbig' : (n3 : Int) ≤ 400000 ∧ (m3 : Int) ≤ 400000 ∧ ∀ f ∈ fs3, (f.2.2.2.length : Int) ≤ 400000 := by rw [← hn3, ← hm3]; exact hbig
                  rw [hn3, hm3]
                  have HBig := hid_mk hbig'
                  have HIff := hid_mk hiff
                  have HN3 := hid_mk (And.intro hn3 hm3)
                  have oA : Out 0 0 w7 (w7.alloc (.cells #[.int .i64 x3, .slice (some ⟨gt3, 0, none⟩) n3 n3, .slice (some ⟨gf3, 0, none⟩) m3 m3] 25)) := (Out.refl 0 0 w7).alloc _
                  have HP7 := hid_mk (hp7.kept oA (Nat.zero_le _))
                  have HPA := hid_mk (((HP3.out.trans HP6.out).trans o7).trans oA)
                  have HO7 := hid_mk ((HO3.out.trans HP6.out).trans (o7.trans oA))
                  have HVA := hid_mk (HVB.out.trans HPA.out)
                  have bq := Bl.new w7 #[.int .i64 x3, .slice (some ⟨gt3, 0, none⟩) n3 n3, .slice (some ⟨gf3, 0, none⟩) m3 m3] 25
                  have HBq := hid_mk bq
                  clear hq hw o7 hp7 hbig hbig' hiff hn3 hm3 oA
                  obtain ⟨W7, hW7⟩ : ∃ W7, w7.alloc (.cells #[.int .i64 x3, .slice (some ⟨gt3, 0, none⟩) n3 n3, .slice (some ⟨gf3, 0, none⟩) m3 m3] 25) = W7 := ⟨_, rfl⟩
                  obtain ⟨g7, hg7⟩ : ∃ g7, w7.heap.size = g7 := ⟨_, rfl⟩
                  go_wp2_with fail
                  rw [hW7] at HP7 HPA HO7 HVA HBq bq
                  rw [hg7] at HBq bq
                  (try rw [hW7])
                  (try rw [hg7])
                  clear hW7 hg7
                  have bA := kept0 HA.out HVA.out
                  have d1 := cell0 (HCc.out k y HY.out) HPA.out
                  have hcz : Hid (∀ wr, Out 0 0 W7 wr → wr.cell? ⟨g7, 0, none⟩ = some (.int .i64 x3) ∧ wr.cell? ⟨g7, 1, none⟩ = some (.slice (some ⟨gt3, 0, none⟩) n3 n3) ∧ wr.cell? ⟨g7, 2, none⟩ = some (.slice (some ⟨gf3, 0, none⟩) m3 m3) ∧ wr.cell? ⟨p, 0, none⟩ = some (.int .i64 x) ∧ wr.cell? ⟨p, 1, none⟩ = some (.slice ta nt tc) ∧ wr.cell? ⟨p, 2, none⟩ = some (.slice fa nf fc) ∧ wr.cell? ⟨g2, off2 + k, none⟩ = some (.int .u8 y)) := hid_mk fun wr o => ⟨(kept0 HBq.out o).cell (i := 0) rfl, (kept0 HBq.out o).cell (i := 1) rfl, (kept0 HBq.out o).cell (i := 2) rfl, (kept0 (kept0 HA.out HVA.out) o).cell (i := 0) rfl, (kept0 (kept0 HA.out HVA.out) o).cell (i := 1) rfl, (kept0 (kept0 HA.out HVA.out) o).cell (i := 2) rfl, cell0 (cell0 (HCc.out k y HY.out) HPA.out) o⟩
                  clear bA d1 bq
                  refine wp_region_held_drew (S := fun wr => wr.cell? ⟨g7, 0, none⟩ = some (.int .i64 x3) ∧ wr.cell? ⟨g7, 1, none⟩ = some (.slice (some ⟨gt3, 0, none⟩) n3 n3) ∧ wr.cell? ⟨g7, 2, none⟩ = some (.slice (some ⟨gf3, 0, none⟩) m3 m3) ∧ wr.cell? ⟨p, 0, none⟩ = some (.int .i64 x) ∧ wr.cell? ⟨p, 1, none⟩ = some (.slice ta nt tc) ∧ wr.cell? ⟨p, 2, none⟩ = some (.slice fa nf fc) ∧ wr.cell? ⟨g2, off2 + k, none⟩ = some (.int .u8 y)) (by kernel_rfl) (hcz.out _ (Out.refl 0 0 _)) (fun hHeld => ?_)
                  refine tk 0 ?_
                  refine tk 1 ?_
                  refine tk 3 ?_
                  refine tk 4 ?_
                  refine tk 5 ?_
                  refine tk 6 ?_
                  refine tk 7 ?_
                  refine tk 8 ?_
                  refine wpAnyH_ready (rs := [2]) (by kernel_rfl) (by simp) ?_
                  refine AllReadyH.cons rfl (fun KK hK => ?_) AllReadyH.nil
                  simp only [xa, xb, xc]
                  go_simp
                  have o8 : Out 0 0 W7 W7.drew := (Out.refl 0 0 W7).drew
                  have hsz8 : p ≤ W7.drew.heap.size := Nat.le_trans hpl.out (HVA.out.trans o8).size
                  have hp8 := HP7.out.kept o8 (Nat.zero_le _)
                  refine (same_any x3 x ts3 ts fs3 fs (some ⟨gt3, 0, none⟩) ta (some ⟨gf3, 0, none⟩) fa n3 nt m3 nf n3 tc m3 fc HN3.out.1 HN.out.1 HN3.out.2 HN.out.2.1 hp8.tx ((HT.out.kept (Lo.of_out (HVA.out.trans o8)) (Nat.le_refl _)).up hsz8) hp8.fn ((HF.out.kept (Lo.of_out (HVA.out.trans o8)) (Nat.le_refl _)).up hsz8) HBig.out).mono ?_
                  rintro e w9 ⟨⟨bb, rfl, hbb⟩, o9⟩
                  refine hK.out _ _ (hcz.out _ (o8.trans o9)) (fun _ => ?_)
                  have HO9 := hid_mk (HO7.out.trans (o8.trans o9))
                  clear o8 hsz8 hp8 o9
                  by_cases hty : t = y
                  · have hbt : bb = true := hbb.2 (HIff.out.2 hty)
                    have hte : (t == y) = true := by simpa using hty
                    subst hbt
                    clear hbb hty
                    refine tk 9 ?_
                    refine tk 10 ?_
                    refine wpAnyH_done (by kernel_rfl) ?_ _
                    go_wp2
                    go_ret
                    exact ⟨rfl, HO9.out⟩
                  · have hbt : bb = false := by
                      cases bb with
                      | false => rfl
                      | true => exact absurd (HIff.out.1 (hbb.1 rfl)) hty
                    have hte : (t == y) = false := by simpa using hty
                    subst hbt
                    clear hbb hty
                    refine tk 9 ?_
                    refine tk 10 ?_
                    refine wpAnyH_done (by kernel_rfl) ?_ _
                    go_wp2
                    go_ret
                    exact ⟨rfl, HO9.out⟩
              · have hE0 : ∃ E : Int, wrE (x, ts, fs) = E ∧ (E != 0) = true := by
                  by_cases hok : okP (x, ts, fs)
                  · exact ⟨2, (wr_long hok (by rcases Nat.lt_or_ge 65536 (encP (x, ts, fs)).length with q | q; exact q; exact absurd ⟨hok, q⟩ hgood)).1, by decide⟩
                  · exact ⟨62, (wr_form hok).1, by decide⟩
                obtain ⟨E, hE, hE1⟩ := hE0
                rw [hE]
                clear hE hgood hb2 hK2 hc2
                go_wp2_with (go_at_call 10; refine (alive_any (HTy.out.out HOB.out (.inr rfl))).mono ?_; rintro e w3 ⟨rfl, o3⟩; have HOB := hid_mk (HOB.out.trans o3); clear o3)
                go_ret
                exact ⟨rfl, HOB.out⟩
            · obtain ⟨o5, gt2, gf2, hp5, rfl⟩ := rd_ok hq (by have := HQl.out; omega) hs
              obtain ⟨n2, hn2⟩ : ∃ k, ts2.length = k := ⟨_, rfl⟩
              obtain ⟨m2, hm2⟩ : ∃ k, fs2.length = k := ⟨_, rfl⟩
              rw [hn2, hm2]
              have HVk := hid_mk ((HV4.out.trans o5).alloc (.cells #[.int .i64 x2, .slice (some ⟨gt2, 0, none⟩) n2 n2, .slice (some ⟨gf2, 0, none⟩) m2 m2] 25))
              have HOk := hid_mk ((HO4.out.trans o5).alloc (.cells #[.int .i64 x2, .slice (some ⟨gt2, 0, none⟩) n2 n2, .slice (some ⟨gf2, 0, none⟩) m2 m2] 25))
              clear hq hs o5 HVa HOa HV4 HO4 HB4 HC4 HA2 hp5 hn2 hm2
              have bA := kept0 HA.out HVk.out
              have a0 := bA.cell (i := 0) rfl
              have a1 := bA.cell (i := 1) rfl
              have a2 := bA.cell (i := 2) rfl
              clear bA
              go_wp2_with fail
              refine (write_at (HTy.out.out HOk.out (.inr rfl)) (Nat.le_trans hpl.out HVk.out.size) x ts fs ta fa nt tc nf fc HN.out.1 HN.out.2.1 (HT.out.kept (Lo.of_out HVk.out) (Nat.le_refl _)) (HF.out.kept (Lo.of_out HVk.out) (Nat.le_refl _)) HM.out HBt.out).mono ?_
              rintro e wB ⟨ra, K, cap2, rfl, oB, hb2, hK2, hc2⟩
              clear a0 a1 a2
              have HVB := hid_mk (HVk.out.trans oB)
              have HOB := hid_mk (HOk.out.trans oB)
              clear oB HVk HOk
              by_cases hgood : okP (x, ts, fs) ∧ (encP (x, ts, fs)).length ≤ 65536
              · obtain ⟨hok, hlen⟩ := hgood
                have hw2 := wr_ok hok hlen
                rw [hw2.2] at hb2 hK2
                rw [hw2.1]
                obtain ⟨E, hE⟩ : ∃ E, encP (x, ts, fs) = E := ⟨_, rfl⟩
                rw [hE] at hb2 hK2
                have HTurn : Hid (∀ k, k < E.length → ∀ (y : Int) (xe : Int) (q : Nat), wholeR (E.set k y) = .inl (xe, q) → k ≤ q + 8) := hid_mk fun k hk y xe q h => by rw [← hE] at hk h; exact whole_turned hok hk y h
                have HRd : Hid (wholeR E = .inr (x, ts, fs)) := hid_mk (by rw [← hE]; exact rd_wr hok)
                have HDif : Hid (∀ (d : List Int) P, Byt d → wholeR d = .inr P → (P = (x, ts, fs) ↔ d = E)) := hid_mk fun d P hB h => by
                  obtain ⟨k1, k2⟩ := wr_rd hB h
                  constructor
                  · rintro rfl; rw [← k2, hE]
                  · intro e; exact enc_inj k1 hok (by rw [k2, e, hE])
                have HKl : Hid (K ≤ 65536 ∧ 0 < K) := hid_mk (by
                  have h0 : 4 ≤ E.length := by rw [← hE]; unfold encP; rw [List.length_append]; simp
                  rw [hE] at hlen; omega)
                rcases hb2.2 with h0 | ⟨g2, off2, rfl, hg2, hcc2⟩
                · exfalso; rw [h0] at hK2; have := HKl.out; simp at hK2; omega
                have HB2 := hid_mk hb2
                have HCc := hid_mk hcc2
                have HK2 := hid_mk hK2
                have HC2 := hid_mk hc2
                have HEB : Hid (Byt E) := hid_mk hb2.1
                clear hok hlen hw2 hb2 hK2 hc2 hE hcc2 hg2
                have hK0 : ((K : Int) == 0) = false := by have := HKl.out; simp; omega
                have hkp : (0 : Int) < (K : Int) := by have := HKl.out; omega
                obtain ⟨k, hk⟩ : ∃ k, wiV c K = k := ⟨_, rfl⟩
                have HkK : Hid (k < K) := hid_mk (by rw [← hk]; exact wi_lt HKl.out.2)
                have HWi : Hid (∀ W : World, Calls Tryd.prog 17 #[.int .i64 c, .int .i64 K] W fun e w' => e = .returned (.int .i64 (k : Int)) ∧ w' = W) := hid_mk fun W => by rw [← hk]; exact within_any c K HKl.out.2 HC.out
                clear hk
                obtain ⟨y, hy⟩ : ∃ y, E[k]? = some y := ⟨_, List.getElem?_eq_getElem (by rw [HK2.out]; exact HkK.out)⟩
                have HY := hid_mk hy
                clear hy
                go_wp2_with (first
                  | (go_at_call 10; refine (alive_any (HTy.out.out HOB.out (.inr rfl))).mono ?_; rintro e w3 ⟨rfl, o3⟩; have HO3 := hid_mk (HOB.out.trans o3); have HP3 := hid_mk o3; clear o3)
                  | (go_at_call 17; refine calls_same (HWi.out _) ?_)
                  | (at_builtin; refine app_step (base := w3.heap.size) (bs := []) (x := E) rfl _ _ rfl rfl rfl (World.ownsRow_nil _ _ _ 1) (Nat.le_refl _) (HB2.out.kept (Lo.of_out HP3.out) (Nat.le_refl _)).bytes HK2.out (by omega) (by have := HKl.out; omega) ?_))
                intro a6 c6 w6 q1 q2 q3
                (try rw [Nat.zero_add, List.nil_append] at q1)
                (try rw [Nat.zero_add])
                obtain ⟨g6, hg6, hge6, cur, hbl, hcc, hcur⟩ := own_blk HKl.out.2 q1
                subst hg6
                have HB6 := hid_mk (set_by k hbl hcur HEB.out t HTo.out)
                have HP6 := hid_mk ((nil_out q2).setCell (p := ⟨g6, k, none⟩) (.inr hge6) (.int .u8 t))
                have HC6 := hid_mk hcc
                have c6k := hbl.cell (hcur k y HY.out)
                have f6k := hbl.frozen k
                have hkK : (k : Int) < (K : Int) := by have := HkK.out; omega
                have hK6 : (K : Int) ≤ 65536 := by have := HKl.out; omega
                clear q1 q2 q3 hcur hge6 hcc hbl
                go_wp2_with fail
                clear c6k f6k
                refine (read_any (HTy.out.out (HO3.out.trans HP6.out) (.inr rfl)) (Nat.le_refl _) HB6.out (by rw [List.length_set]; exact HK2.out) HC6.out).mono ?_
                intro e w7 hq
                rcases hw : wholeR (E.set k t) with ⟨xe, q⟩ | ⟨x3, ts3, fs3⟩
                · obtain ⟨o7, rfl⟩ := rd_err hq HKl.out.1 hw
                  have hx : (xe != 0) = true := by rcases whole_ends hw with c | c <;> (rw [c.1]; decide)
                  have hkq := HTurn.out k (by rw [HK2.out]; exact HkK.out) t xe q hw
                  have hne : t ≠ y := fun e => by rw [(set_iff HY.out).2 e, HRd.out] at hw; cases hw
                  have hty : (t != y) = true := by simpa using hne
                  have hge : decide ((k : Int) - 8 ≤ (q : Int)) = true := by simp; omega
                  have HO7 := hid_mk (((HO3.out.trans HP6.out).trans o7).alloc (.cells #[.int .i64 0, .slice none 0 0, .slice none 0 0] 25))
                  have d1 := cell0 (HCc.out k y HY.out) (((HP3.out.trans HP6.out).trans o7).alloc (.cells #[.int .i64 0, .slice none 0 0, .slice none 0 0] 25))
                  clear hq hw o7 hne hkq
                  go_wp2_with fail
                  go_ret
                  exact ⟨rfl, HO7.out⟩
                · obtain ⟨o7, gt3, gf3, hp7, rfl⟩ := rd_ok hq HKl.out.1 hw
                  have hiff := (HDif.out _ _ HB6.out.1 hw).trans (set_iff HY.out)
                  have hbig := ok_big (wr_rd HB6.out.1 hw).1
                  obtain ⟨n3, hn3⟩ : ∃ k, ts3.length = k := ⟨_, rfl⟩
                  obtain ⟨m3, hm3⟩ : ∃ k, fs3.length = k := ⟨_, rfl⟩
                  have hbig' : (n3 : Int) ≤ 400000 ∧ (m3 : Int) ≤ 400000 ∧ ∀ f ∈ fs3, (f.2.2.2.length : Int) ≤ 400000 := by rw [← hn3, ← hm3]; exact hbig
                  rw [hn3, hm3]
                  have HBig := hid_mk hbig'
                  have HIff := hid_mk hiff
                  have HN3 := hid_mk (And.intro hn3 hm3)
                  have oA : Out 0 0 w7 (w7.alloc (.cells #[.int .i64 x3, .slice (some ⟨gt3, 0, none⟩) n3 n3, .slice (some ⟨gf3, 0, none⟩) m3 m3] 25)) := (Out.refl 0 0 w7).alloc _
                  have HP7 := hid_mk (hp7.kept oA (Nat.zero_le _))
                  have HPA := hid_mk (((HP3.out.trans HP6.out).trans o7).trans oA)
                  have HO7 := hid_mk ((HO3.out.trans HP6.out).trans (o7.trans oA))
                  have HVA := hid_mk (HVB.out.trans HPA.out)
                  have bq := Bl.new w7 #[.int .i64 x3, .slice (some ⟨gt3, 0, none⟩) n3 n3, .slice (some ⟨gf3, 0, none⟩) m3 m3] 25
                  have HBq := hid_mk bq
                  clear hq hw o7 hp7 hbig hbig' hiff hn3 hm3 oA
                  obtain ⟨W7, hW7⟩ : ∃ W7, w7.alloc (.cells #[.int .i64 x3, .slice (some ⟨gt3, 0, none⟩) n3 n3, .slice (some ⟨gf3, 0, none⟩) m3 m3] 25) = W7 := ⟨_, rfl⟩
                  obtain ⟨g7, hg7⟩ : ∃ g7, w7.heap.size = g7 := ⟨_, rfl⟩
                  go_wp2_with fail
                  rw [hW7] at HP7 HPA HO7 HVA HBq bq
                  rw [hg7] at HBq bq
                  (try rw [hW7])
                  (try rw [hg7])
                  clear hW7 hg7
                  have bA := kept0 HA.out HVA.out
                  have d1 := cell0 (HCc.out k y HY.out) HPA.out
                  have hcz : Hid (∀ wr, Out 0 0 W7 wr → wr.cell? ⟨g7, 0, none⟩ = some (.int .i64 x3) ∧ wr.cell? ⟨g7, 1, none⟩ = some (.slice (some ⟨gt3, 0, none⟩) n3 n3) ∧ wr.cell? ⟨g7, 2, none⟩ = some (.slice (some ⟨gf3, 0, none⟩) m3 m3) ∧ wr.cell? ⟨p, 0, none⟩ = some (.int .i64 x) ∧ wr.cell? ⟨p, 1, none⟩ = some (.slice ta nt tc) ∧ wr.cell? ⟨p, 2, none⟩ = some (.slice fa nf fc) ∧ wr.cell? ⟨g2, off2 + k, none⟩ = some (.int .u8 y)) := hid_mk fun wr o => ⟨(kept0 HBq.out o).cell (i := 0) rfl, (kept0 HBq.out o).cell (i := 1) rfl, (kept0 HBq.out o).cell (i := 2) rfl, (kept0 (kept0 HA.out HVA.out) o).cell (i := 0) rfl, (kept0 (kept0 HA.out HVA.out) o).cell (i := 1) rfl, (kept0 (kept0 HA.out HVA.out) o).cell (i := 2) rfl, cell0 (cell0 (HCc.out k y HY.out) HPA.out) o⟩
                  clear bA d1 bq
                  refine wp_region_held_drew (S := fun wr => wr.cell? ⟨g7, 0, none⟩ = some (.int .i64 x3) ∧ wr.cell? ⟨g7, 1, none⟩ = some (.slice (some ⟨gt3, 0, none⟩) n3 n3) ∧ wr.cell? ⟨g7, 2, none⟩ = some (.slice (some ⟨gf3, 0, none⟩) m3 m3) ∧ wr.cell? ⟨p, 0, none⟩ = some (.int .i64 x) ∧ wr.cell? ⟨p, 1, none⟩ = some (.slice ta nt tc) ∧ wr.cell? ⟨p, 2, none⟩ = some (.slice fa nf fc) ∧ wr.cell? ⟨g2, off2 + k, none⟩ = some (.int .u8 y)) (by kernel_rfl) (hcz.out _ (Out.refl 0 0 _)) (fun hHeld => ?_)
                  refine tk 0 ?_
                  refine tk 1 ?_
                  refine tk 3 ?_
                  refine tk 4 ?_
                  refine tk 5 ?_
                  refine tk 6 ?_
                  refine tk 7 ?_
                  refine tk 8 ?_
                  refine wpAnyH_ready (rs := [2]) (by kernel_rfl) (by simp) ?_
                  refine AllReadyH.cons rfl (fun KK hK => ?_) AllReadyH.nil
                  simp only [xa, xb, xc]
                  go_simp
                  have o8 : Out 0 0 W7 W7.drew := (Out.refl 0 0 W7).drew
                  have hsz8 : p ≤ W7.drew.heap.size := Nat.le_trans hpl.out (HVA.out.trans o8).size
                  have hp8 := HP7.out.kept o8 (Nat.zero_le _)
                  refine (same_any x3 x ts3 ts fs3 fs (some ⟨gt3, 0, none⟩) ta (some ⟨gf3, 0, none⟩) fa n3 nt m3 nf n3 tc m3 fc HN3.out.1 HN.out.1 HN3.out.2 HN.out.2.1 hp8.tx ((HT.out.kept (Lo.of_out (HVA.out.trans o8)) (Nat.le_refl _)).up hsz8) hp8.fn ((HF.out.kept (Lo.of_out (HVA.out.trans o8)) (Nat.le_refl _)).up hsz8) HBig.out).mono ?_
                  rintro e w9 ⟨⟨bb, rfl, hbb⟩, o9⟩
                  refine hK.out _ _ (hcz.out _ (o8.trans o9)) (fun _ => ?_)
                  have HO9 := hid_mk (HO7.out.trans (o8.trans o9))
                  clear o8 hsz8 hp8 o9
                  by_cases hty : t = y
                  · have hbt : bb = true := hbb.2 (HIff.out.2 hty)
                    have hte : (t == y) = true := by simpa using hty
                    subst hbt
                    clear hbb hty
                    refine tk 9 ?_
                    refine tk 10 ?_
                    refine wpAnyH_done (by kernel_rfl) ?_ _
                    go_wp2
                    go_ret
                    exact ⟨rfl, HO9.out⟩
                  · have hbt : bb = false := by
                      cases bb with
                      | false => rfl
                      | true => exact absurd (HIff.out.1 (hbb.1 rfl)) hty
                    have hte : (t == y) = false := by simpa using hty
                    subst hbt
                    clear hbb hty
                    refine tk 9 ?_
                    refine tk 10 ?_
                    refine wpAnyH_done (by kernel_rfl) ?_ _
                    go_wp2
                    go_ret
                    exact ⟨rfl, HO9.out⟩
              · have hE0 : ∃ E : Int, wrE (x, ts, fs) = E ∧ (E != 0) = true := by
                  by_cases hok : okP (x, ts, fs)
                  · exact ⟨2, (wr_long hok (by rcases Nat.lt_or_ge 65536 (encP (x, ts, fs)).length with q | q; exact q; exact absurd ⟨hok, q⟩ hgood)).1, by decide⟩
                  · exact ⟨62, (wr_form hok).1, by decide⟩
                obtain ⟨E, hE, hE1⟩ := hE0
                rw [hE]
                clear hE hgood hb2 hK2 hc2
                go_wp2_with (go_at_call 10; refine (alive_any (HTy.out.out HOB.out (.inr rfl))).mono ?_; rintro e w3 ⟨rfl, o3⟩; have HOB := hid_mk (HOB.out.trans o3); clear o3)
                go_ret
                exact ⟨rfl, HOB.out⟩
        · obtain ⟨o2, gt2, gf2, hp2, rfl⟩ := rd_ok hq hn6 hw
          obtain ⟨n2, hn2⟩ : ∃ k, ts2.length = k := ⟨_, rfl⟩
          obtain ⟨m2, hm2⟩ : ∃ k, fs2.length = k := ⟨_, rfl⟩
          rw [hn2, hm2]
          have HVk := hid_mk ((HV1.out.trans o2).alloc (.cells #[.int .i64 x2, .slice (some ⟨gt2, 0, none⟩) n2 n2, .slice (some ⟨gf2, 0, none⟩) m2 m2] 25))
          have HOk := hid_mk ((HO1.out.trans o2).alloc (.cells #[.int .i64 x2, .slice (some ⟨gt2, 0, none⟩) n2 n2, .slice (some ⟨gf2, 0, none⟩) m2 m2] 25))
          clear hq hw o2 hp2 hn2 hm2 hn6
          have bA := kept0 HA.out HVk.out
          have a0 := bA.cell (i := 0) rfl
          have a1 := bA.cell (i := 1) rfl
          have a2 := bA.cell (i := 2) rfl
          clear bA
          go_wp2_with fail
          refine (write_at (HTy.out.out HOk.out (.inr rfl)) (Nat.le_trans hpl.out HVk.out.size) x ts fs ta fa nt tc nf fc HN.out.1 HN.out.2.1 (HT.out.kept (Lo.of_out HVk.out) (Nat.le_refl _)) (HF.out.kept (Lo.of_out HVk.out) (Nat.le_refl _)) HM.out HBt.out).mono ?_
          rintro e wB ⟨ra, K, cap2, rfl, oB, hb2, hK2, hc2⟩
          clear a0 a1 a2
          have HVB := hid_mk (HVk.out.trans oB)
          have HOB := hid_mk (HOk.out.trans oB)
          clear oB HVk HOk
          by_cases hgood : okP (x, ts, fs) ∧ (encP (x, ts, fs)).length ≤ 65536
          · obtain ⟨hok, hlen⟩ := hgood
            have hw2 := wr_ok hok hlen
            rw [hw2.2] at hb2 hK2
            rw [hw2.1]
            obtain ⟨E, hE⟩ : ∃ E, encP (x, ts, fs) = E := ⟨_, rfl⟩
            rw [hE] at hb2 hK2
            have HTurn : Hid (∀ k, k < E.length → ∀ (y : Int) (xe : Int) (q : Nat), wholeR (E.set k y) = .inl (xe, q) → k ≤ q + 8) := hid_mk fun k hk y xe q h => by rw [← hE] at hk h; exact whole_turned hok hk y h
            have HRd : Hid (wholeR E = .inr (x, ts, fs)) := hid_mk (by rw [← hE]; exact rd_wr hok)
            have HDif : Hid (∀ (d : List Int) P, Byt d → wholeR d = .inr P → (P = (x, ts, fs) ↔ d = E)) := hid_mk fun d P hB h => by
              obtain ⟨k1, k2⟩ := wr_rd hB h
              constructor
              · rintro rfl; rw [← k2, hE]
              · intro e; exact enc_inj k1 hok (by rw [k2, e, hE])
            have HKl : Hid (K ≤ 65536 ∧ 0 < K) := hid_mk (by
              have h0 : 4 ≤ E.length := by rw [← hE]; unfold encP; rw [List.length_append]; simp
              rw [hE] at hlen; omega)
            rcases hb2.2 with h0 | ⟨g2, off2, rfl, hg2, hcc2⟩
            · exfalso; rw [h0] at hK2; have := HKl.out; simp at hK2; omega
            have HB2 := hid_mk hb2
            have HCc := hid_mk hcc2
            have HK2 := hid_mk hK2
            have HC2 := hid_mk hc2
            have HEB : Hid (Byt E) := hid_mk hb2.1
            clear hok hlen hw2 hb2 hK2 hc2 hE hcc2 hg2
            have hK0 : ((K : Int) == 0) = false := by have := HKl.out; simp; omega
            have hkp : (0 : Int) < (K : Int) := by have := HKl.out; omega
            obtain ⟨k, hk⟩ : ∃ k, wiV c K = k := ⟨_, rfl⟩
            have HkK : Hid (k < K) := hid_mk (by rw [← hk]; exact wi_lt HKl.out.2)
            have HWi : Hid (∀ W : World, Calls Tryd.prog 17 #[.int .i64 c, .int .i64 K] W fun e w' => e = .returned (.int .i64 (k : Int)) ∧ w' = W) := hid_mk fun W => by rw [← hk]; exact within_any c K HKl.out.2 HC.out
            clear hk
            obtain ⟨y, hy⟩ : ∃ y, E[k]? = some y := ⟨_, List.getElem?_eq_getElem (by rw [HK2.out]; exact HkK.out)⟩
            have HY := hid_mk hy
            clear hy
            go_wp2_with (first
              | (go_at_call 10; refine (alive_any (HTy.out.out HOB.out (.inr rfl))).mono ?_; rintro e w3 ⟨rfl, o3⟩; have HO3 := hid_mk (HOB.out.trans o3); have HP3 := hid_mk o3; clear o3)
              | (go_at_call 17; refine calls_same (HWi.out _) ?_)
              | (at_builtin; refine app_step (base := w3.heap.size) (bs := []) (x := E) rfl _ _ rfl rfl rfl (World.ownsRow_nil _ _ _ 1) (Nat.le_refl _) (HB2.out.kept (Lo.of_out HP3.out) (Nat.le_refl _)).bytes HK2.out (by omega) (by have := HKl.out; omega) ?_))
            intro a6 c6 w6 q1 q2 q3
            (try rw [Nat.zero_add, List.nil_append] at q1)
            (try rw [Nat.zero_add])
            obtain ⟨g6, hg6, hge6, cur, hbl, hcc, hcur⟩ := own_blk HKl.out.2 q1
            subst hg6
            have HB6 := hid_mk (set_by k hbl hcur HEB.out t HTo.out)
            have HP6 := hid_mk ((nil_out q2).setCell (p := ⟨g6, k, none⟩) (.inr hge6) (.int .u8 t))
            have HC6 := hid_mk hcc
            have c6k := hbl.cell (hcur k y HY.out)
            have f6k := hbl.frozen k
            have hkK : (k : Int) < (K : Int) := by have := HkK.out; omega
            have hK6 : (K : Int) ≤ 65536 := by have := HKl.out; omega
            clear q1 q2 q3 hcur hge6 hcc hbl
            go_wp2_with fail
            clear c6k f6k
            refine (read_any (HTy.out.out (HO3.out.trans HP6.out) (.inr rfl)) (Nat.le_refl _) HB6.out (by rw [List.length_set]; exact HK2.out) HC6.out).mono ?_
            intro e w7 hq
            rcases hw : wholeR (E.set k t) with ⟨xe, q⟩ | ⟨x3, ts3, fs3⟩
            · obtain ⟨o7, rfl⟩ := rd_err hq HKl.out.1 hw
              have hx : (xe != 0) = true := by rcases whole_ends hw with c | c <;> (rw [c.1]; decide)
              have hkq := HTurn.out k (by rw [HK2.out]; exact HkK.out) t xe q hw
              have hne : t ≠ y := fun e => by rw [(set_iff HY.out).2 e, HRd.out] at hw; cases hw
              have hty : (t != y) = true := by simpa using hne
              have hge : decide ((k : Int) - 8 ≤ (q : Int)) = true := by simp; omega
              have HO7 := hid_mk (((HO3.out.trans HP6.out).trans o7).alloc (.cells #[.int .i64 0, .slice none 0 0, .slice none 0 0] 25))
              have d1 := cell0 (HCc.out k y HY.out) (((HP3.out.trans HP6.out).trans o7).alloc (.cells #[.int .i64 0, .slice none 0 0, .slice none 0 0] 25))
              clear hq hw o7 hne hkq
              go_wp2_with fail
              go_ret
              exact ⟨rfl, HO7.out⟩
            · obtain ⟨o7, gt3, gf3, hp7, rfl⟩ := rd_ok hq HKl.out.1 hw
              have hiff := (HDif.out _ _ HB6.out.1 hw).trans (set_iff HY.out)
              have hbig := ok_big (wr_rd HB6.out.1 hw).1
              obtain ⟨n3, hn3⟩ : ∃ k, ts3.length = k := ⟨_, rfl⟩
              obtain ⟨m3, hm3⟩ : ∃ k, fs3.length = k := ⟨_, rfl⟩
              have hbig' : (n3 : Int) ≤ 400000 ∧ (m3 : Int) ≤ 400000 ∧ ∀ f ∈ fs3, (f.2.2.2.length : Int) ≤ 400000 := by rw [← hn3, ← hm3]; exact hbig
              rw [hn3, hm3]
              have HBig := hid_mk hbig'
              have HIff := hid_mk hiff
              have HN3 := hid_mk (And.intro hn3 hm3)
              have oA : Out 0 0 w7 (w7.alloc (.cells #[.int .i64 x3, .slice (some ⟨gt3, 0, none⟩) n3 n3, .slice (some ⟨gf3, 0, none⟩) m3 m3] 25)) := (Out.refl 0 0 w7).alloc _
              have HP7 := hid_mk (hp7.kept oA (Nat.zero_le _))
              have HPA := hid_mk (((HP3.out.trans HP6.out).trans o7).trans oA)
              have HO7 := hid_mk ((HO3.out.trans HP6.out).trans (o7.trans oA))
              have HVA := hid_mk (HVB.out.trans HPA.out)
              have bq := Bl.new w7 #[.int .i64 x3, .slice (some ⟨gt3, 0, none⟩) n3 n3, .slice (some ⟨gf3, 0, none⟩) m3 m3] 25
              have HBq := hid_mk bq
              clear hq hw o7 hp7 hbig hbig' hiff hn3 hm3 oA
              obtain ⟨W7, hW7⟩ : ∃ W7, w7.alloc (.cells #[.int .i64 x3, .slice (some ⟨gt3, 0, none⟩) n3 n3, .slice (some ⟨gf3, 0, none⟩) m3 m3] 25) = W7 := ⟨_, rfl⟩
              obtain ⟨g7, hg7⟩ : ∃ g7, w7.heap.size = g7 := ⟨_, rfl⟩
              go_wp2_with fail
              rw [hW7] at HP7 HPA HO7 HVA HBq bq
              rw [hg7] at HBq bq
              (try rw [hW7])
              (try rw [hg7])
              clear hW7 hg7
              have bA := kept0 HA.out HVA.out
              have d1 := cell0 (HCc.out k y HY.out) HPA.out
              have hcz : Hid (∀ wr, Out 0 0 W7 wr → wr.cell? ⟨g7, 0, none⟩ = some (.int .i64 x3) ∧ wr.cell? ⟨g7, 1, none⟩ = some (.slice (some ⟨gt3, 0, none⟩) n3 n3) ∧ wr.cell? ⟨g7, 2, none⟩ = some (.slice (some ⟨gf3, 0, none⟩) m3 m3) ∧ wr.cell? ⟨p, 0, none⟩ = some (.int .i64 x) ∧ wr.cell? ⟨p, 1, none⟩ = some (.slice ta nt tc) ∧ wr.cell? ⟨p, 2, none⟩ = some (.slice fa nf fc) ∧ wr.cell? ⟨g2, off2 + k, none⟩ = some (.int .u8 y)) := hid_mk fun wr o => ⟨(kept0 HBq.out o).cell (i := 0) rfl, (kept0 HBq.out o).cell (i := 1) rfl, (kept0 HBq.out o).cell (i := 2) rfl, (kept0 (kept0 HA.out HVA.out) o).cell (i := 0) rfl, (kept0 (kept0 HA.out HVA.out) o).cell (i := 1) rfl, (kept0 (kept0 HA.out HVA.out) o).cell (i := 2) rfl, cell0 (cell0 (HCc.out k y HY.out) HPA.out) o⟩
              clear bA d1 bq
              refine wp_region_held_drew (S := fun wr => wr.cell? ⟨g7, 0, none⟩ = some (.int .i64 x3) ∧ wr.cell? ⟨g7, 1, none⟩ = some (.slice (some ⟨gt3, 0, none⟩) n3 n3) ∧ wr.cell? ⟨g7, 2, none⟩ = some (.slice (some ⟨gf3, 0, none⟩) m3 m3) ∧ wr.cell? ⟨p, 0, none⟩ = some (.int .i64 x) ∧ wr.cell? ⟨p, 1, none⟩ = some (.slice ta nt tc) ∧ wr.cell? ⟨p, 2, none⟩ = some (.slice fa nf fc) ∧ wr.cell? ⟨g2, off2 + k, none⟩ = some (.int .u8 y)) (by kernel_rfl) (hcz.out _ (Out.refl 0 0 _)) (fun hHeld => ?_)
              refine tk 0 ?_
              refine tk 1 ?_
              refine tk 3 ?_
              refine tk 4 ?_
              refine tk 5 ?_
              refine tk 6 ?_
              refine tk 7 ?_
              refine tk 8 ?_
              refine wpAnyH_ready (rs := [2]) (by kernel_rfl) (by simp) ?_
              refine AllReadyH.cons rfl (fun KK hK => ?_) AllReadyH.nil
              simp only [xa, xb, xc]
              go_simp
              have o8 : Out 0 0 W7 W7.drew := (Out.refl 0 0 W7).drew
              have hsz8 : p ≤ W7.drew.heap.size := Nat.le_trans hpl.out (HVA.out.trans o8).size
              have hp8 := HP7.out.kept o8 (Nat.zero_le _)
              refine (same_any x3 x ts3 ts fs3 fs (some ⟨gt3, 0, none⟩) ta (some ⟨gf3, 0, none⟩) fa n3 nt m3 nf n3 tc m3 fc HN3.out.1 HN.out.1 HN3.out.2 HN.out.2.1 hp8.tx ((HT.out.kept (Lo.of_out (HVA.out.trans o8)) (Nat.le_refl _)).up hsz8) hp8.fn ((HF.out.kept (Lo.of_out (HVA.out.trans o8)) (Nat.le_refl _)).up hsz8) HBig.out).mono ?_
              rintro e w9 ⟨⟨bb, rfl, hbb⟩, o9⟩
              refine hK.out _ _ (hcz.out _ (o8.trans o9)) (fun _ => ?_)
              have HO9 := hid_mk (HO7.out.trans (o8.trans o9))
              clear o8 hsz8 hp8 o9
              by_cases hty : t = y
              · have hbt : bb = true := hbb.2 (HIff.out.2 hty)
                have hte : (t == y) = true := by simpa using hty
                subst hbt
                clear hbb hty
                refine tk 9 ?_
                refine tk 10 ?_
                refine wpAnyH_done (by kernel_rfl) ?_ _
                go_wp2
                go_ret
                exact ⟨rfl, HO9.out⟩
              · have hbt : bb = false := by
                  cases bb with
                  | false => rfl
                  | true => exact absurd (HIff.out.1 (hbb.1 rfl)) hty
                have hte : (t == y) = false := by simpa using hty
                subst hbt
                clear hbb hty
                refine tk 9 ?_
                refine tk 10 ?_
                refine wpAnyH_done (by kernel_rfl) ?_ _
                go_wp2
                go_ret
                exact ⟨rfl, HO9.out⟩
          · have hE0 : ∃ E : Int, wrE (x, ts, fs) = E ∧ (E != 0) = true := by
              by_cases hok : okP (x, ts, fs)
              · exact ⟨2, (wr_long hok (by rcases Nat.lt_or_ge 65536 (encP (x, ts, fs)).length with q | q; exact q; exact absurd ⟨hok, q⟩ hgood)).1, by decide⟩
              · exact ⟨62, (wr_form hok).1, by decide⟩
            obtain ⟨E, hE, hE1⟩ := hE0
            rw [hE]
            clear hE hgood hb2 hK2 hc2
            go_wp2_with (go_at_call 10; refine (alive_any (HTy.out.out HOB.out (.inr rfl))).mono ?_; rintro e w3 ⟨rfl, o3⟩; have HOB := hid_mk (HOB.out.trans o3); clear o3)
            go_ret
            exact ⟨rfl, HOB.out⟩
      · obtain ⟨o2, rfl⟩ := rd_long hq (by omega)
        have HVk := hid_mk ((HV1.out.trans o2).alloc (.cells #[.int .i64 0, .slice none 0 0, .slice none 0 0] 25))
        have HOk := hid_mk ((HO1.out.trans o2).alloc (.cells #[.int .i64 0, .slice none 0 0, .slice none 0 0] 25))
        have hle : decide ((n : Int) ≤ 65536) = false := by simp; omega
        clear hq o2 hn6
        have bA := kept0 HA.out HVk.out
        have a0 := bA.cell (i := 0) rfl
        have a1 := bA.cell (i := 1) rfl
        have a2 := bA.cell (i := 2) rfl
        clear bA
        go_wp2_with fail
        refine (write_at (HTy.out.out HOk.out (.inr rfl)) (Nat.le_trans hpl.out HVk.out.size) x ts fs ta fa nt tc nf fc HN.out.1 HN.out.2.1 (HT.out.kept (Lo.of_out HVk.out) (Nat.le_refl _)) (HF.out.kept (Lo.of_out HVk.out) (Nat.le_refl _)) HM.out HBt.out).mono ?_
        rintro e wB ⟨ra, K, cap2, rfl, oB, hb2, hK2, hc2⟩
        clear a0 a1 a2
        have HVB := hid_mk (HVk.out.trans oB)
        have HOB := hid_mk (HOk.out.trans oB)
        clear oB HVk HOk
        by_cases hgood : okP (x, ts, fs) ∧ (encP (x, ts, fs)).length ≤ 65536
        · obtain ⟨hok, hlen⟩ := hgood
          have hw2 := wr_ok hok hlen
          rw [hw2.2] at hb2 hK2
          rw [hw2.1]
          obtain ⟨E, hE⟩ : ∃ E, encP (x, ts, fs) = E := ⟨_, rfl⟩
          rw [hE] at hb2 hK2
          have HTurn : Hid (∀ k, k < E.length → ∀ (y : Int) (xe : Int) (q : Nat), wholeR (E.set k y) = .inl (xe, q) → k ≤ q + 8) := hid_mk fun k hk y xe q h => by rw [← hE] at hk h; exact whole_turned hok hk y h
          have HRd : Hid (wholeR E = .inr (x, ts, fs)) := hid_mk (by rw [← hE]; exact rd_wr hok)
          have HDif : Hid (∀ (d : List Int) P, Byt d → wholeR d = .inr P → (P = (x, ts, fs) ↔ d = E)) := hid_mk fun d P hB h => by
            obtain ⟨k1, k2⟩ := wr_rd hB h
            constructor
            · rintro rfl; rw [← k2, hE]
            · intro e; exact enc_inj k1 hok (by rw [k2, e, hE])
          have HKl : Hid (K ≤ 65536 ∧ 0 < K) := hid_mk (by
            have h0 : 4 ≤ E.length := by rw [← hE]; unfold encP; rw [List.length_append]; simp
            rw [hE] at hlen; omega)
          rcases hb2.2 with h0 | ⟨g2, off2, rfl, hg2, hcc2⟩
          · exfalso; rw [h0] at hK2; have := HKl.out; simp at hK2; omega
          have HB2 := hid_mk hb2
          have HCc := hid_mk hcc2
          have HK2 := hid_mk hK2
          have HC2 := hid_mk hc2
          have HEB : Hid (Byt E) := hid_mk hb2.1
          clear hok hlen hw2 hb2 hK2 hc2 hE hcc2 hg2
          have hK0 : ((K : Int) == 0) = false := by have := HKl.out; simp; omega
          have hkp : (0 : Int) < (K : Int) := by have := HKl.out; omega
          obtain ⟨k, hk⟩ : ∃ k, wiV c K = k := ⟨_, rfl⟩
          have HkK : Hid (k < K) := hid_mk (by rw [← hk]; exact wi_lt HKl.out.2)
          have HWi : Hid (∀ W : World, Calls Tryd.prog 17 #[.int .i64 c, .int .i64 K] W fun e w' => e = .returned (.int .i64 (k : Int)) ∧ w' = W) := hid_mk fun W => by rw [← hk]; exact within_any c K HKl.out.2 HC.out
          clear hk
          obtain ⟨y, hy⟩ : ∃ y, E[k]? = some y := ⟨_, List.getElem?_eq_getElem (by rw [HK2.out]; exact HkK.out)⟩
          have HY := hid_mk hy
          clear hy
          go_wp2_with (first
            | (go_at_call 10; refine (alive_any (HTy.out.out HOB.out (.inr rfl))).mono ?_; rintro e w3 ⟨rfl, o3⟩; have HO3 := hid_mk (HOB.out.trans o3); have HP3 := hid_mk o3; clear o3)
            | (go_at_call 17; refine calls_same (HWi.out _) ?_)
            | (at_builtin; refine app_step (base := w3.heap.size) (bs := []) (x := E) rfl _ _ rfl rfl rfl (World.ownsRow_nil _ _ _ 1) (Nat.le_refl _) (HB2.out.kept (Lo.of_out HP3.out) (Nat.le_refl _)).bytes HK2.out (by omega) (by have := HKl.out; omega) ?_))
          intro a6 c6 w6 q1 q2 q3
          (try rw [Nat.zero_add, List.nil_append] at q1)
          (try rw [Nat.zero_add])
          obtain ⟨g6, hg6, hge6, cur, hbl, hcc, hcur⟩ := own_blk HKl.out.2 q1
          subst hg6
          have HB6 := hid_mk (set_by k hbl hcur HEB.out t HTo.out)
          have HP6 := hid_mk ((nil_out q2).setCell (p := ⟨g6, k, none⟩) (.inr hge6) (.int .u8 t))
          have HC6 := hid_mk hcc
          have c6k := hbl.cell (hcur k y HY.out)
          have f6k := hbl.frozen k
          have hkK : (k : Int) < (K : Int) := by have := HkK.out; omega
          have hK6 : (K : Int) ≤ 65536 := by have := HKl.out; omega
          clear q1 q2 q3 hcur hge6 hcc hbl
          go_wp2_with fail
          clear c6k f6k
          refine (read_any (HTy.out.out (HO3.out.trans HP6.out) (.inr rfl)) (Nat.le_refl _) HB6.out (by rw [List.length_set]; exact HK2.out) HC6.out).mono ?_
          intro e w7 hq
          rcases hw : wholeR (E.set k t) with ⟨xe, q⟩ | ⟨x3, ts3, fs3⟩
          · obtain ⟨o7, rfl⟩ := rd_err hq HKl.out.1 hw
            have hx : (xe != 0) = true := by rcases whole_ends hw with c | c <;> (rw [c.1]; decide)
            have hkq := HTurn.out k (by rw [HK2.out]; exact HkK.out) t xe q hw
            have hne : t ≠ y := fun e => by rw [(set_iff HY.out).2 e, HRd.out] at hw; cases hw
            have hty : (t != y) = true := by simpa using hne
            have hge : decide ((k : Int) - 8 ≤ (q : Int)) = true := by simp; omega
            have HO7 := hid_mk (((HO3.out.trans HP6.out).trans o7).alloc (.cells #[.int .i64 0, .slice none 0 0, .slice none 0 0] 25))
            have d1 := cell0 (HCc.out k y HY.out) (((HP3.out.trans HP6.out).trans o7).alloc (.cells #[.int .i64 0, .slice none 0 0, .slice none 0 0] 25))
            clear hq hw o7 hne hkq
            go_wp2_with fail
            go_ret
            exact ⟨rfl, HO7.out⟩
          · obtain ⟨o7, gt3, gf3, hp7, rfl⟩ := rd_ok hq HKl.out.1 hw
            have hiff := (HDif.out _ _ HB6.out.1 hw).trans (set_iff HY.out)
            have hbig := ok_big (wr_rd HB6.out.1 hw).1
            obtain ⟨n3, hn3⟩ : ∃ k, ts3.length = k := ⟨_, rfl⟩
            obtain ⟨m3, hm3⟩ : ∃ k, fs3.length = k := ⟨_, rfl⟩
            have hbig' : (n3 : Int) ≤ 400000 ∧ (m3 : Int) ≤ 400000 ∧ ∀ f ∈ fs3, (f.2.2.2.length : Int) ≤ 400000 := by rw [← hn3, ← hm3]; exact hbig
            rw [hn3, hm3]
            have HBig := hid_mk hbig'
            have HIff := hid_mk hiff
            have HN3 := hid_mk (And.intro hn3 hm3)
            have oA : Out 0 0 w7 (w7.alloc (.cells #[.int .i64 x3, .slice (some ⟨gt3, 0, none⟩) n3 n3, .slice (some ⟨gf3, 0, none⟩) m3 m3] 25)) := (Out.refl 0 0 w7).alloc _
            have HP7 := hid_mk (hp7.kept oA (Nat.zero_le _))
            have HPA := hid_mk (((HP3.out.trans HP6.out).trans o7).trans oA)
            have HO7 := hid_mk ((HO3.out.trans HP6.out).trans (o7.trans oA))
            have HVA := hid_mk (HVB.out.trans HPA.out)
            have bq := Bl.new w7 #[.int .i64 x3, .slice (some ⟨gt3, 0, none⟩) n3 n3, .slice (some ⟨gf3, 0, none⟩) m3 m3] 25
            have HBq := hid_mk bq
            clear hq hw o7 hp7 hbig hbig' hiff hn3 hm3 oA
            obtain ⟨W7, hW7⟩ : ∃ W7, w7.alloc (.cells #[.int .i64 x3, .slice (some ⟨gt3, 0, none⟩) n3 n3, .slice (some ⟨gf3, 0, none⟩) m3 m3] 25) = W7 := ⟨_, rfl⟩
            obtain ⟨g7, hg7⟩ : ∃ g7, w7.heap.size = g7 := ⟨_, rfl⟩
            go_wp2_with fail
            rw [hW7] at HP7 HPA HO7 HVA HBq bq
            rw [hg7] at HBq bq
            (try rw [hW7])
            (try rw [hg7])
            clear hW7 hg7
            have bA := kept0 HA.out HVA.out
            have d1 := cell0 (HCc.out k y HY.out) HPA.out
            have hcz : Hid (∀ wr, Out 0 0 W7 wr → wr.cell? ⟨g7, 0, none⟩ = some (.int .i64 x3) ∧ wr.cell? ⟨g7, 1, none⟩ = some (.slice (some ⟨gt3, 0, none⟩) n3 n3) ∧ wr.cell? ⟨g7, 2, none⟩ = some (.slice (some ⟨gf3, 0, none⟩) m3 m3) ∧ wr.cell? ⟨p, 0, none⟩ = some (.int .i64 x) ∧ wr.cell? ⟨p, 1, none⟩ = some (.slice ta nt tc) ∧ wr.cell? ⟨p, 2, none⟩ = some (.slice fa nf fc) ∧ wr.cell? ⟨g2, off2 + k, none⟩ = some (.int .u8 y)) := hid_mk fun wr o => ⟨(kept0 HBq.out o).cell (i := 0) rfl, (kept0 HBq.out o).cell (i := 1) rfl, (kept0 HBq.out o).cell (i := 2) rfl, (kept0 (kept0 HA.out HVA.out) o).cell (i := 0) rfl, (kept0 (kept0 HA.out HVA.out) o).cell (i := 1) rfl, (kept0 (kept0 HA.out HVA.out) o).cell (i := 2) rfl, cell0 (cell0 (HCc.out k y HY.out) HPA.out) o⟩
            clear bA d1 bq
            refine wp_region_held_drew (S := fun wr => wr.cell? ⟨g7, 0, none⟩ = some (.int .i64 x3) ∧ wr.cell? ⟨g7, 1, none⟩ = some (.slice (some ⟨gt3, 0, none⟩) n3 n3) ∧ wr.cell? ⟨g7, 2, none⟩ = some (.slice (some ⟨gf3, 0, none⟩) m3 m3) ∧ wr.cell? ⟨p, 0, none⟩ = some (.int .i64 x) ∧ wr.cell? ⟨p, 1, none⟩ = some (.slice ta nt tc) ∧ wr.cell? ⟨p, 2, none⟩ = some (.slice fa nf fc) ∧ wr.cell? ⟨g2, off2 + k, none⟩ = some (.int .u8 y)) (by kernel_rfl) (hcz.out _ (Out.refl 0 0 _)) (fun hHeld => ?_)
            refine tk 0 ?_
            refine tk 1 ?_
            refine tk 3 ?_
            refine tk 4 ?_
            refine tk 5 ?_
            refine tk 6 ?_
            refine tk 7 ?_
            refine tk 8 ?_
            refine wpAnyH_ready (rs := [2]) (by kernel_rfl) (by simp) ?_
            refine AllReadyH.cons rfl (fun KK hK => ?_) AllReadyH.nil
            simp only [xa, xb, xc]
            go_simp
            have o8 : Out 0 0 W7 W7.drew := (Out.refl 0 0 W7).drew
            have hsz8 : p ≤ W7.drew.heap.size := Nat.le_trans hpl.out (HVA.out.trans o8).size
            have hp8 := HP7.out.kept o8 (Nat.zero_le _)
            refine (same_any x3 x ts3 ts fs3 fs (some ⟨gt3, 0, none⟩) ta (some ⟨gf3, 0, none⟩) fa n3 nt m3 nf n3 tc m3 fc HN3.out.1 HN.out.1 HN3.out.2 HN.out.2.1 hp8.tx ((HT.out.kept (Lo.of_out (HVA.out.trans o8)) (Nat.le_refl _)).up hsz8) hp8.fn ((HF.out.kept (Lo.of_out (HVA.out.trans o8)) (Nat.le_refl _)).up hsz8) HBig.out).mono ?_
            rintro e w9 ⟨⟨bb, rfl, hbb⟩, o9⟩
            refine hK.out _ _ (hcz.out _ (o8.trans o9)) (fun _ => ?_)
            have HO9 := hid_mk (HO7.out.trans (o8.trans o9))
            clear o8 hsz8 hp8 o9
            by_cases hty : t = y
            · have hbt : bb = true := hbb.2 (HIff.out.2 hty)
              have hte : (t == y) = true := by simpa using hty
              subst hbt
              clear hbb hty
              refine tk 9 ?_
              refine tk 10 ?_
              refine wpAnyH_done (by kernel_rfl) ?_ _
              go_wp2
              go_ret
              exact ⟨rfl, HO9.out⟩
            · have hbt : bb = false := by
                cases bb with
                | false => rfl
                | true => exact absurd (HIff.out.1 (hbb.1 rfl)) hty
              have hte : (t == y) = false := by simpa using hty
              subst hbt
              clear hbb hty
              refine tk 9 ?_
              refine tk 10 ?_
              refine wpAnyH_done (by kernel_rfl) ?_ _
              go_wp2
              go_ret
              exact ⟨rfl, HO9.out⟩
        · have hE0 : ∃ E : Int, wrE (x, ts, fs) = E ∧ (E != 0) = true := by
            by_cases hok : okP (x, ts, fs)
            · exact ⟨2, (wr_long hok (by rcases Nat.lt_or_ge 65536 (encP (x, ts, fs)).length with q | q; exact q; exact absurd ⟨hok, q⟩ hgood)).1, by decide⟩
            · exact ⟨62, (wr_form hok).1, by decide⟩
          obtain ⟨E, hE, hE1⟩ := hE0
          rw [hE]
          clear hE hgood hb2 hK2 hc2
          go_wp2_with (go_at_call 10; refine (alive_any (HTy.out.out HOB.out (.inr rfl))).mono ?_; rintro e w3 ⟨rfl, o3⟩; have HOB := hid_mk (HOB.out.trans o3); clear o3)
          go_ret
          exact ⟨rfl, HOB.out⟩
end Go.Proofs.YtnekepeojadhaaaDoor
