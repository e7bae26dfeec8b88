import Derived.Test.YtkghabmgofgclaaDoorQau
import Derived.Deep.Cut
namespace Go.Proofs.YtkghabmgofgclaaDoor
open Go.RowKit
set_option linter.unusedVariables false
set_option linter.unusedSimpArgs false

theorem CdL.marks2 {w : World} {lo : Nat} {l : List (Int × Int)} {v : Value} (h : CdL w lo [(-7, 0), (-8, 0)] v l) : ∃ g c, v = .slice (some ⟨g, 0, none⟩) l.length c ∧ l.length + 2 ≤ c ∧ w.cell? ⟨g, l.length * 2, none⟩ = some (.int .i64 (-7)) ∧ w.cell? ⟨g, (l.length + 1) * 2, none⟩ = some (.int .i64 (-8)) ∧ ∀ (j : Nat) x, l[j]? = some x → w.cell? ⟨g, j * 2, none⟩ = some (.int .i64 x.1) ∧ w.cell? ⟨g, j * 2 + 1, none⟩ = some (.int .i64 x.2) := by
  obtain ⟨a, c, rfl, h2⟩ := h
  obtain ⟨g, cur, rfl, q1, q2, q3, q4, q5, -⟩ := own_cellsX h2 (by simp)
  refine ⟨g, c, rfl, by simpa using q5, q2 _ _ ?_, q2 _ _ ?_, fun j x hj => ⟨q2 _ _ ?_, q2 _ _ ?_⟩⟩
  · rw [icl_app, List.getElem?_append_right (by rw [icl_len]; omega), icl_len, Nat.sub_self]; rfl
  · rw [icl_app, List.getElem?_append_right (by rw [icl_len]; omega), icl_len, show (l.length + 1) * 2 - l.length * 2 = 2 by omega]; rfl
  · have hlt := (List.getElem?_eq_some_iff.1 hj).1
    rw [icl_app, List.getElem?_append_left (by rw [icl_len]; omega)]; exact (icl_at hj).1
  · have hlt := (List.getElem?_eq_some_iff.1 hj).1
    rw [icl_app, List.getElem?_append_left (by rw [icl_len]; omega)]; exact (icl_at hj).2
theorem conv_byX {w : World} {p : Option Addr} {t : List Int} {c n : Nat} (h : BytesAt w p t) (hn : t.length = n) : (Go.convert 33 9 (.slice p n c)).run Tryd.prog w = .ok (.string (strOfNums t)) w := by
  subst hn
  rcases h.2 with rfl | ⟨g, off, rfl, hc⟩
  · cases p with
    | none => exact run_convert_bytes_nil w _ 5 Tryd.underlying33 Tryd.underlying5 _ _ _ Tryd.underlying9
    | some a =>
      rw [run_convert_bytes_string w 33 9 5 _ _ c Tryd.underlying33 Tryd.underlying5 Tryd.underlying9, run_bytesToString w _ _ c [] (by simp [loadCells, loadCellsFrom])]
      rfl
  · refine run_convert_bytes_arg w _ 5 Tryd.underlying33 Tryd.underlying5 g off t.length c t rfl (fun i hi => ?_) _ Tryd.underlying9
    rw [hc i t[i] (List.getElem?_eq_getElem hi)]
    simp [List.getD, List.getElem?_eq_getElem hi]
theorem neq_insX (a b : Int) (W : World) : (binOp .neq 61 (.agg #[.int .i64 a, .int .i64 b]) (.agg #[.int .i64 a, .int .i64 b])).run Tryd.prog W = .ok (.bool false) W := by
  have h1 : (a == a) = true := by simp
  have h2 : (b == b) = true := by simp
  go_simp
theorem wrap_atX {n k e : Nat} (h : n ≤ 1000000) (hk : k ≤ 1000) (he : n + k = e) : wrap64 ((n : Int) + (k : Int)) = (e : Int) := by unfold wrap64; omega
set_option maxRecDepth 100000 in
set_option maxHeartbeats 4000000 in
theorem kept19_any {w : World} {B lo qk rk : Nat} {qa ra : Option Addr} {vs cs : List Value} (hB : B ≤ w.heap.size) (x : Int) (ts : List (List Int)) (fs : List (Int × Int × Int × List (Int × Int))) (ta fa : Option Addr) (nt tc nf fc : Nat) (hnt : ts.length = nt) (hnf : fs.length = nf) (hts : TxIn w B ta ts) (hfs : FnIn w B fa fs) (hl1 : nt + nf ≤ 300000) (hl2 : ∀ f ∈ fs, f.2.2.2.length ≤ 300000) (hl3 : ∀ t ∈ ts, t.length ≤ 300000) (hL : LtAt w lo qa qk vs ra rk cs ts fs) :
    Calls Tryd.prog 35 #[.agg #[.int .i64 x, .slice qa nt qk, .slice ra nf rk], .agg #[.int .i64 x, .slice ta nt tc, .slice fa nf fc]] w fun e w' => e = .returned (.bool true) ∧ Out 0 0 w w' := by
  obtain ⟨b, hb⟩ : ∃ b, w.heap.size = b := ⟨_, rfl⟩
  obtain ⟨V, hV⟩ : ∃ V, (w.alloc (.cells #[.int .i64 x, .slice qa nt qk, .slice ra nf rk] 25)).alloc (.cells #[.int .i64 x, .slice ta nt tc, .slice fa nf fc] 25) = V := ⟨_, rfl⟩
  have oV : Out 0 0 w V := by rw [← hV]; exact ((Out.refl 0 0 w).alloc _).alloc _
  have b0 : Bl V b #[.int .i64 x, .slice qa nt qk, .slice ra nf rk] 25 := by rw [← hV, ← hb]; exact (Bl.new _ _ _).alloc _
  have b1 : Bl V (b + 1) #[.int .i64 x, .slice ta nt tc, .slice fa nf fc] 25 := by
    rw [← hV, ← hb]
    have := Bl.new (w.alloc (.cells #[.int .i64 x, .slice qa nt qk, .slice ra nf rk] 25)) #[.int .i64 x, .slice ta nt tc, .slice fa nf fc] 25
    rwa [size_alloc] at this
  have HH := hid_mk (And.intro hB (And.intro hnt (And.intro hnf (And.intro hts (And.intro hfs (And.intro hl1 (And.intro hl2 (And.intro hl3 hL))))))))
  have HV : Hid (Bl V b #[.int .i64 x, .slice qa nt qk, .slice ra nf rk] 25 ∧ Bl V (b + 1) #[.int .i64 x, .slice ta nt tc, .slice fa nf fc] 25 ∧ Out 0 0 w V) := hid_mk ⟨b0, b1, oV⟩
  have a0 := b0.cell (i := 0) rfl
  have a1 := b0.cell (i := 1) rfl
  have a2 := b0.cell (i := 2) rfl
  have e0 := b1.cell (i := 0) rfl
  have e1 := b1.cell (i := 1) rfl
  have e2 := b1.cell (i := 2) rfl
  clear hB hnt hnf hts hfs hl1 hl2 hl3 hL oV b0 b1
  go_enter Tryd.func35, Tryd.ntmps35
  go_wp2
  (try rw [hV])
  (try rw [hb])
  clear hV hb a0 e0 a1 a2 e1 e2
  go_loopw [5] (fun c wr => ∃ (i : Nat), c = .int .i64 i ∧ i ≤ nt ∧ Out 0 0 V wr) (fun c _ => nt - (intOf c).toNat)
  case atStart => exact ⟨0, rfl, Nat.zero_le _, Out.refl _ _ _⟩
  case round =>
    obtain ⟨i, rfl, him, hO⟩ := hrel
    have bq := HV.out.1.kept hO (.inr (Nat.zero_le _))
    have bp := HV.out.2.1.kept hO (.inr (Nat.zero_le _))
    have e1 := bp.cell (i := 1) rfl
    by_cases hgo : i < nt
    · obtain ⟨l1, l2⟩ := lt_d hgo
      obtain ⟨hB, hnt, hnf, hts, hfs, hl1, hl2, hl3, hL⟩ := HH.out
      have ow := HV.out.2.2.trans hO
      obtain ⟨t, ht⟩ : ∃ t, ts[i]? = some t := ⟨_, List.getElem?_eq_getElem (by omega)⟩
      obtain ⟨g, off, pj, cj, rfl, hg, c1, hby⟩ := tx_cellX (hts.kept (C := B) (Lo.of_out ow) (Nat.le_refl _)) ht
      obtain ⟨v, hv⟩ : ∃ v, vs[i]? = some v := ⟨_, List.getElem?_eq_getElem (by have := hL.2.1.1; omega)⟩
      have hL2 := hL.quiet ow
      obtain ⟨av, cv, rfl, hby2⟩ := (hL2.2.1.2 i v t hv ht).by
      obtain ⟨go, cur, rfl, -, hcl, -⟩ := own_cellsX hL2.1 (by omega)
      have d1 := hcl i _ hv
      have a1 := bq.cell (i := 1) rfl
      obtain ⟨n, hn⟩ : ∃ n, t.length = n := ⟨_, rfl⟩
      obtain ⟨st, hst⟩ : ∃ st, strOfNums t = st := ⟨_, rfl⟩
      rw [hn] at c1 d1
      have f1 : (Go.convert 33 9 (.slice pj n cj)).run Tryd.prog wr.drew = .ok (.string st) wr.drew := by
        have := conv_byX (w := wr.drew) (c := cj) hby.bytes hn
        rwa [hst] at this
      have f2 : (Go.convert 33 9 (.slice av n cv)).run Tryd.prog wr.drew = .ok (.string st) wr.drew := by
        have := conv_byX (w := wr.drew) (c := cv) hby2.bytes hn
        rwa [hst] at this
      have HE := hid_mk (And.intro f1 f2)
      have lmi : (i : Int) < (nt : Int) := by omega
      have HI : Hid (i < nt ∧ nt ≤ 300000 ∧ Out 0 0 V wr) := hid_mk ⟨hgo, by omega, hO⟩
      clear hB hnt hnf hts hfs hl1 hl2 hl3 hL ow ht hg hby hby2 hv hL2 hcl hn hst f1 f2 hgo him hO bq bp
      go_wp2_with fail
      obtain ⟨f1, f2⟩ := HE.out
      refine wp_region_held_drew (S := fun w' => w'.cell? ⟨b, 1, none⟩ = some (.slice (some ⟨go, 0, none⟩) nt qk) ∧ w'.cell? ⟨b + 1, 1, none⟩ = some (.slice (some ⟨g, off, none⟩) nt tc) ∧ w'.cell? ⟨go, i, none⟩ = some (.slice av n cv) ∧ w'.cell? ⟨g, off + i, none⟩ = some (.slice pj n cj) ∧ (Go.convert 33 9 (.slice pj n cj)).run Tryd.prog w' = .ok (.string st) w' ∧ (Go.convert 33 9 (.slice av n cv)).run Tryd.prog w' = .ok (.string st) w') (by kernel_rfl) ?hS1 (fun hHeld => ?rest1)
      case hS1 => exact ⟨a1, e1, d1, c1, f1, f2⟩
      refine tk 0 ?_
      refine tk 1 ?_
      refine tk 2 ?_
      refine tk 3 ?_
      refine tk 4 ?_
      refine tk 5 ?_
      refine tk 6 ?_
      refine tk 7 ?_
      refine tk 8 ?_
      refine tk 9 ?_
      refine tk 10 ?_
      refine tk 11 ?_
      refine tk 12 ?_
      refine wpAnyH_done (by kernel_rfl) ?_ _
      clear f1 f2 HE hHeld a1 e1 d1 c1
      go_wp2
      exact ⟨⟨i + 1, up_V HI.out.1 (by have := HI.out; omega), HI.out.1, HI.out.2.2.trans (Out.refl 0 0 wr).drew⟩, by rw [up_W HI.out.1 (by have := HI.out; omega)]; exact ms_N HI.out.1⟩
    · obtain rfl : nt = i := by omega
      have l1 : decide ((nt : Int) < (nt : Int)) = false := by simp
      have HO := hid_mk hO
      clear hgo him hO bq bp
      go_wp2
      clear e1
      go_loopw [6] (fun c wr => ∃ (j : Nat), c = .int .i64 j ∧ j ≤ nf ∧ Out 0 0 V wr) (fun c _ => nf - (intOf c).toNat)
      case atStart => exact ⟨0, rfl, Nat.zero_le _, HO.out⟩
      case round =>
        obtain ⟨j, rfl, hjm, hO⟩ := hrel
        have bq := HV.out.1.kept hO (.inr (Nat.zero_le _))
        have bp := HV.out.2.1.kept hO (.inr (Nat.zero_le _))
        have e2 := bp.cell (i := 2) rfl
        by_cases hgo : j < nf
        · obtain ⟨l1, l2⟩ := lt_d hgo
          obtain ⟨hB, hnt, hnf, hts, hfs, hl1, hl2, hl3, hL⟩ := HH.out
          have ow := HV.out.2.2.trans hO
          obtain ⟨⟨P, L, C, cd⟩, hf⟩ : ∃ f, fs[j]? = some f := ⟨_, List.getElem?_eq_getElem (by omega)⟩
          obtain ⟨g, off, pj, cj, rfl, hg, p0, p1, p2, p3, hin⟩ := fn_cell (hfs.kept (C := B) (Lo.of_out ow) (Nat.le_refl _)) hf
          simp only [] at p0 p1 p2 p3 hin
          obtain ⟨v, hv⟩ : ∃ v, cs[j]? = some v := ⟨_, List.getElem?_eq_getElem (by have := hL.2.2.2.1; omega)⟩
          have hL2 := hL.quiet ow
          obtain ⟨gj, c2, rfl, hn2, y1, y2, ycl⟩ := (hL2.2.2.2.2.1 j v _ hv hf).marks2
          simp only [] at hn2 y1 y2 ycl
          obtain ⟨go, cur, rfl, -, hcl, -⟩ := own_cellsX hL2.2.2.1 (by omega)
          obtain ⟨u0, u1, u2, u3⟩ := fcl_at hf hv
          have q0 := hcl _ _ u0
          have q1 := hcl _ _ u1
          have q2 := hcl _ _ u2
          have q3 := hcl _ _ u3
          simp only [] at q0 q1 q2 q3
          have a2 := bq.cell (i := 2) rfl
          have hn3 := hl2 _ (List.mem_of_getElem? hf)
          simp only [] at hn3
          obtain ⟨n, hn⟩ : ∃ n, cd.length = n := ⟨_, rfl⟩
          rw [hn] at p3 q3 hn2 y1 y2 hn3
          have lmi : (j : Int) < (nf : Int) := by omega
          have HI : Hid (j < nf ∧ nf ≤ 300000 ∧ Out 0 0 V wr ∧ n ≤ 300000 ∧ cd.length = n ∧ n + 2 ≤ c2) := hid_mk ⟨hgo, by omega, hO, hn3, hn, hn2⟩
          have hci : ∀ (k : Nat) z, cd[k]? = some z → ∃ gi oi, pj = some ⟨gi, oi, none⟩ ∧ wr.cell? ⟨gi, oi + k * 2, none⟩ = some (.int .i64 z.1) ∧ wr.cell? ⟨gi, oi + k * 2 + 1, none⟩ = some (.int .i64 z.2) := by
            intro k z hz
            rcases hin with h0 | ⟨gi, oi, h1, -, h3⟩
            · rw [h0] at hz; cases hz
            · exact ⟨gi, oi, h1, h3 k z hz⟩
          clear hin
          obtain ⟨W0, rfl⟩ : ∃ W0, W0 = wr := ⟨_, rfl⟩
          have HC : Hid (W0.cell? ⟨b, 2, none⟩ = some (.slice (some ⟨go, 0, none⟩) nf rk) ∧ W0.cell? ⟨b + 1, 2, none⟩ = some (.slice (some ⟨g, off, none⟩) nf fc) ∧ W0.cell? ⟨go, j * 4 + 3, none⟩ = some (.slice (some ⟨gj, 0, none⟩) n c2) ∧ W0.cell? ⟨g, off + j * 4 + 3, none⟩ = some (.slice pj n cj) ∧ W0.cell? ⟨gj, n * 2, none⟩ = some (.int .i64 (-7)) ∧ W0.cell? ⟨gj, (n + 1) * 2, none⟩ = some (.int .i64 (-8)) ∧ (∀ (k : Nat) z, cd[k]? = some z → (W0.cell? ⟨gj, k * 2, none⟩ = some (.int .i64 z.1) ∧ W0.cell? ⟨gj, k * 2 + 1, none⟩ = some (.int .i64 z.2)) ∧ ∃ gi oi, pj = some ⟨gi, oi, none⟩ ∧ W0.cell? ⟨gi, oi + k * 2, none⟩ = some (.int .i64 z.1) ∧ W0.cell? ⟨gi, oi + k * 2 + 1, none⟩ = some (.int .i64 z.2))) := hid_mk ⟨a2, e2, q3, p3, y1, y2, fun k z hz => ⟨ycl k z hz, hci k z hz⟩⟩
          clear hB hnt hnf hts hfs hl1 hl2 hl3 hL ow hf hg hv hL2 hcl hn hn2 hn3 hgo hjm hO bq bp u0 u1 u2 u3 y1 y2 ycl hci
          go_wp2_with fail
          refine wp_region_held_drew (S := fun w' => (w'.cell? ⟨b, 2, none⟩ = some (.slice (some ⟨go, 0, none⟩) nf rk) ∧ w'.cell? ⟨b + 1, 2, none⟩ = some (.slice (some ⟨g, off, none⟩) nf fc)) ∧ (w'.cell? ⟨go, j * 4, none⟩ = some (.int .i64 P) ∧ w'.cell? ⟨go, j * 4 + 1, none⟩ = some (.int .i64 L) ∧ w'.cell? ⟨go, j * 4 + 2, none⟩ = some (.int .i64 C) ∧ w'.cell? ⟨go, j * 4 + 3, none⟩ = some (.slice (some ⟨gj, 0, none⟩) n c2)) ∧ (w'.cell? ⟨g, off + j * 4, none⟩ = some (.int .i64 P) ∧ w'.cell? ⟨g, off + j * 4 + 1, none⟩ = some (.int .i64 L) ∧ w'.cell? ⟨g, off + j * 4 + 2, none⟩ = some (.int .i64 C) ∧ w'.cell? ⟨g, off + j * 4 + 3, none⟩ = some (.slice pj n cj))) (by kernel_rfl) ?hS15 (fun hHeld => ?rest15)
          case hS15 => exact ⟨⟨a2, e2⟩, ⟨q0, q1, q2, q3⟩, p0, p1, p2, p3⟩
          refine tk 0 ?_
          refine tk 1 ?_
          refine tk 2 ?_
          refine tk 3 ?_
          refine tk 4 ?_
          refine tk 5 ?_
          refine tk 6 ?_
          refine tk 7 ?_
          refine tk 8 ?_
          refine tk 9 ?_
          refine tk 10 ?_
          refine tk 11 ?_
          refine tk 12 ?_
          refine tk 13 ?_
          refine tk 14 ?_
          refine tk 15 ?_
          refine tk 16 ?_
          refine tk 17 ?_
          refine tk 18 ?_
          refine tk 19 ?_
          refine tk 20 ?_
          refine tk 21 ?_
          refine tk 22 ?_
          refine tk 23 ?_
          refine tk 24 ?_
          refine tk 25 ?_
          refine tk 26 ?_
          refine tk 27 ?_
          refine tk 28 ?_
          refine tk 29 ?_
          refine tk 30 ?_
          refine tk 31 ?_
          refine tk 32 ?_
          refine tk 33 ?_
          refine tk 34 ?_
          refine tk 35 ?_
          refine tk 36 ?_
          refine tk 37 ?_
          refine tk 38 ?_
          refine tk 39 ?_
          refine tk 40 ?_
          refine tk 41 ?_
          refine tk 42 ?_
          refine tk 43 ?_
          refine tk 44 ?_
          refine tk 45 ?_
          refine tk 46 ?_
          refine tk 47 ?_
          refine tk 48 ?_
          refine tk 49 ?_
          refine tk 50 ?_
          refine tk 51 ?_
          refine tk 52 ?_
          refine tk 53 ?_
          refine wpAnyH_done (by kernel_rfl) ?_ _
          clear hHeld a2 e2 q0 q1 q2 q3 p0 p1 p2 p3
          go_wp2
          go_loopw [8] (fun c wz => ∃ (k : Nat), c = .int .i64 k ∧ k ≤ n ∧ Out 0 0 W0 wz) (fun c _ => n - (intOf c).toNat)
          case atStart => exact ⟨0, rfl, Nat.zero_le _, (Out.refl 0 0 W0).drew⟩
          case round =>
            obtain ⟨k, rfl, hkn, hO2⟩ := hrel
            obtain ⟨a2, e2, q3, p3, y1, y2, yc⟩ := HC.out
            replace a2 := hO2.cell a2 (.inr (Nat.zero_le _))
            replace e2 := hO2.cell e2 (.inr (Nat.zero_le _))
            replace q3 := hO2.cell q3 (.inr (Nat.zero_le _))
            replace p3 := hO2.cell p3 (.inr (Nat.zero_le _))
            by_cases hgk : k < n
            · obtain ⟨v1, v2⟩ := lt_d hgk
              obtain ⟨⟨op, a⟩, hx⟩ : ∃ z, cd[k]? = some z := ⟨_, List.getElem?_eq_getElem (by have := HI.out.2.2.2.2.1; omega)⟩
              obtain ⟨⟨i0, i1⟩, gi, oi, rfl, i2, i3⟩ := yc k _ hx
              simp only [] at i0 i1 i2 i3
              replace i0 := hO2.cell i0 (.inr (Nat.zero_le _))
              replace i1 := hO2.cell i1 (.inr (Nat.zero_le _))
              replace i2 := hO2.cell i2 (.inr (Nat.zero_le _))
              replace i3 := hO2.cell i3 (.inr (Nat.zero_le _))
              have hne := neq_insX op a
              have lmk : (k : Int) < (n : Int) := by omega
              have HK : Hid (k < n ∧ Out 0 0 W0 wr) := hid_mk ⟨hgk, hO2⟩
              clear hkn hO2 y1 y2 yc hgk hx
              go_wp2_with fail
              refine wp_region_held_drew (S := fun w' => (w'.cell? ⟨b, 2, none⟩ = some (.slice (some ⟨go, 0, none⟩) nf rk) ∧ w'.cell? ⟨b + 1, 2, none⟩ = some (.slice (some ⟨g, off, none⟩) nf fc)) ∧ (w'.cell? ⟨go, j * 4 + 3, none⟩ = some (.slice (some ⟨gj, 0, none⟩) n c2) ∧ w'.cell? ⟨g, off + j * 4 + 3, none⟩ = some (.slice (some ⟨gi, oi, none⟩) n cj)) ∧ w'.cell? ⟨gj, k * 2, none⟩ = some (.int .i64 op) ∧ w'.cell? ⟨gj, k * 2 + 1, none⟩ = some (.int .i64 a) ∧ w'.cell? ⟨gi, oi + k * 2, none⟩ = some (.int .i64 op) ∧ w'.cell? ⟨gi, oi + k * 2 + 1, none⟩ = some (.int .i64 a)) (by kernel_rfl) ?hS70 (fun hHeld => ?rest70)
              case hS70 => exact ⟨⟨a2, e2⟩, ⟨q3, p3⟩, i0, i1, i2, i3⟩
              refine tk 0 ?_
              refine tk 1 ?_
              refine tk 2 ?_
              refine tk 3 ?_
              refine tk 4 ?_
              refine tk 5 ?_
              refine tk 6 ?_
              refine tk 7 ?_
              refine tk 8 ?_
              refine tk 9 ?_
              refine tk 10 ?_
              refine tk 11 ?_
              refine tk 12 ?_
              refine tk 13 ?_
              refine tk 14 ?_
              refine tk 15 ?_
              refine tk 16 ?_
              refine tk 17 ?_
              refine tk 18 ?_
              refine wpAnyH_done (by kernel_rfl) ?_ _
              clear hHeld a2 e2 q3 p3 i0 i1 i2 i3 hne
              go_wp2
              exact ⟨⟨k + 1, up_V HK.out.1 (by have := HI.out.2.2.2.1; omega), HK.out.1, HK.out.2.trans (Out.refl 0 0 wr).drew⟩, by rw [up_W HK.out.1 (by have := HI.out.2.2.2.1; omega)]; exact ms_N HK.out.1⟩
            · obtain rfl : n = k := by omega
              have v1 : decide ((n : Int) < (n : Int)) = false := by simp
              replace y1 := hO2.cell y1 (.inr (Nat.zero_le _))
              replace y2 := hO2.cell y2 (.inr (Nat.zero_le _))
              obtain ⟨t2, ht2⟩ : ∃ t2, n + 2 = t2 := ⟨_, rfl⟩
              obtain ⟨t1, ht1⟩ : ∃ t1, n + 1 = t1 := ⟨_, rfl⟩
              rw [ht1] at y2
              have hn9 : n ≤ 1000000 := by have := HI.out.2.2.2.1; omega
              have hcc : (t2 : Int) ≤ (c2 : Int) := by have := HI.out.2.2.2.2.2; omega
              have s1 : (n : Int) < (t2 : Int) := by omega
              have s2 : (t1 : Int) < (t2 : Int) := by omega
              have HK := hid_mk (HI.out.2.2.1.trans hO2)
              have hw2 : wrap64 ((n : Int) + 2) = (t2 : Int) := wrap_atX (k := 2) hn9 (by decide) ht2
              have hw1 : wrap64 ((n : Int) + 1) = (t1 : Int) := wrap_atX (k := 1) hn9 (by decide) ht1
              clear hkn hgk hO2 yc ht1 ht2 hn9
              go_wp2
              exact ⟨⟨j + 1, up_V HI.out.1 (by have := HI.out; omega), HI.out.1, HK.out⟩, by rw [up_W HI.out.1 (by have := HI.out; omega)]; exact ms_N HI.out.1⟩
        · obtain rfl : nf = j := by omega
          have l1 : decide ((nf : Int) < (nf : Int)) = false := by simp
          have HK := hid_mk (HV.out.2.2.trans hO)
          clear hgo hjm hO bq bp
          go_wp2
          go_ret
          exact ⟨rfl, HK.out⟩
end Go.Proofs.YtkghabmgofgclaaDoor
