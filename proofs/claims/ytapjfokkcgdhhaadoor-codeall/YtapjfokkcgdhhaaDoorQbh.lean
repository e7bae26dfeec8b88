import Derived.Test.YtapjfokkcgdhhaaDoorQaq
import Derived.Test.YtapjfokkcgdhhaaDoorQao
import Derived.Deep.Cut
namespace Go.Proofs.YtapjfokkcgdhhaaDoor
open Go.RowKit
set_option linter.unusedVariables false
set_option linter.unusedSimpArgs false

theorem MkL.bytes {w : World} {lo : Nat} {v : Value} (h : MkL w lo v) : ∃ g, v = .slice (some ⟨g, 0, none⟩) 4 4 ∧ BytesAt w (some ⟨g, 0, none⟩) [109, 97, 114, 107] := by
  obtain ⟨g, rfl, h1, h2⟩ := h
  refine ⟨g, rfl, by intro y hy; simp at hy; omega, .inr ⟨g, 0, rfl, fun j x hj => ?_⟩⟩
  have hc : ∀ (j : Nat) v, (#[Value.int .u8 109, .int .u8 97, .int .u8 114, .int .u8 107] : Array Value)[j]? = some v → w.cell? ⟨g, j, none⟩ = some v := by
    intro j v hv
    simp [World.cell?, h2, hv]
  rw [Nat.zero_add]
  match j, hj with
  | 0, hj => cases hj; exact hc 0 _ rfl
  | 1, hj => cases hj; exact hc 1 _ rfl
  | 2, hj => cases hj; exact hc 2 _ rfl
  | 3, hj => cases hj; exact hc 3 _ rfl
  | j + 4, hj => simp at hj
/-- the slice of a text, and its marks -/
theorem TxL.marks {w : World} {lo : Nat} {t : List Int} {v : Value} (h : TxL w lo [7, 8] v t) : ∃ g c, v = .slice (some ⟨g, 0, none⟩) t.length c ∧ t.length + 2 ≤ c ∧ w.cell? ⟨g, t.length, none⟩ = some (.int .u8 7) ∧ w.cell? ⟨g, t.length + 1, none⟩ = some (.int .u8 8) := by
  obtain ⟨h1, a, c, rfl, h2⟩ := h
  obtain ⟨g, cur, rfl, q1, q2, q3, q4, q5, -⟩ := own_cellsX h2 (by simp)
  refine ⟨g, c, rfl, by simpa using q5, q2 _ _ ?_, q2 _ _ ?_⟩
  · unfold bvs; rw [List.map_append, List.getElem?_append_right (by simp)]; simp
  · unfold bvs; rw [List.map_append, List.getElem?_append_right (by simp)]; simp
theorem CdL.marks {w : World} {lo : Nat} {l : List (Int × Int)} {v : Value} (h : CdL w lo [(-7, 0)] v l) : ∃ g c, v = .slice (some ⟨g, 0, none⟩) l.length c ∧ l.length + 1 ≤ c ∧ w.cell? ⟨g, l.length * 2, none⟩ = some (.int .i64 (-7)) := by
  obtain ⟨a, c, rfl, h2⟩ := h
  obtain ⟨g, cur, rfl, q1, q2, q3, q4, q5, -⟩ := own_cellsX h2 (by simp)
  refine ⟨g, c, rfl, by simpa using q5, q2 _ _ ?_⟩
  rw [icl_app, List.getElem?_append_right (by rw [icl_len]; omega), icl_len]
  simp [icl]
theorem wrap_up {n k : Nat} (h : n ≤ 1000000) (hk : k ≤ 1000) : wrap64 ((n : Int) + (k : Int)) = (n : Int) + (k : Int) := by unfold wrap64; omega
theorem wrap_at {n k e : Nat} (h : n ≤ 1000000) (hk : k ≤ 1000) (he : n + k = e) : wrap64 ((n : Int) + (k : Int)) = (e : Int) := by rw [wrap_up h hk]; omega
theorem wrap_ik {n k : Nat} (h : n ≤ 1000000) (hk : k ≤ 1000) : IntKind.i64.wrap ((n : Int) + (k : Int)) = (n : Int) + (k : Int) := by
  simp [IntKind.wrap, IntKind.signed, IntKind.bits]; omega
set_option maxRecDepth 100000 in
set_option maxHeartbeats 4000000 in
theorem kept_any {w : World} {B lo gt ct gf cf : Nat} {vs : List Value} {mv : Value} {cs : List Value} (hB : B ≤ w.heap.size) (x : Int) (ts : List (List Int)) (fs : List (Int × Int × Int × List (Int × Int))) (ta fa : Option Addr) (nt tc nf fc : Nat) (hnt : ts.length = nt) (hnf : fs.length = nf) (hts : TxIn w B ta ts) (hfs : FnIn w B fa fs) (hl1 : nt + nf ≤ 300000) (hl2 : ∀ f ∈ fs, f.2.2.2.length ≤ 300000) (hl3 : ∀ t ∈ ts, t.length ≤ 300000) (hL : LnAt w lo gt ct gf cf vs mv cs ts fs) :
    Calls Tryd.prog 21 #[.agg #[.int .i64 x, .slice (some ⟨gt, 0, none⟩) nt ct, .slice (some ⟨gf, 0, none⟩) nf cf], .agg #[.int .i64 x, .slice ta nt tc, .slice fa nf fc]] w fun e w' => e = .returned (.bool true) ∧ Out 0 0 w w' := by
  obtain ⟨b, hb⟩ : ∃ b, w.heap.size = b := ⟨_, rfl⟩
  have HV : Hid (Bl ((w.alloc (.cells #[.int .i64 x, .slice (some ⟨gt, 0, none⟩) nt ct, .slice (some ⟨gf, 0, none⟩) nf cf] 35)).alloc (.cells #[.int .i64 x, .slice ta nt tc, .slice fa nf fc] 35)) b #[.int .i64 x, .slice (some ⟨gt, 0, none⟩) nt ct, .slice (some ⟨gf, 0, none⟩) nf cf] 35 ∧ Bl ((w.alloc (.cells #[.int .i64 x, .slice (some ⟨gt, 0, none⟩) nt ct, .slice (some ⟨gf, 0, none⟩) nf cf] 35)).alloc (.cells #[.int .i64 x, .slice ta nt tc, .slice fa nf fc] 35)) (b + 1) #[.int .i64 x, .slice ta nt tc, .slice fa nf fc] 35 ∧ Out 0 0 w ((w.alloc (.cells #[.int .i64 x, .slice (some ⟨gt, 0, none⟩) nt ct, .slice (some ⟨gf, 0, none⟩) nf cf] 35)).alloc (.cells #[.int .i64 x, .slice ta nt tc, .slice fa nf fc] 35))) := by
    refine hid_mk ⟨?_, ?_, ((Out.refl 0 0 w).alloc _).alloc _⟩
    · rw [← hb]; exact (Bl.new _ _ _).alloc _
    · have := Bl.new (w.alloc (.cells #[.int .i64 x, .slice (some ⟨gt, 0, none⟩) nt ct, .slice (some ⟨gf, 0, none⟩) nf cf] 35)) #[.int .i64 x, .slice ta nt tc, .slice fa nf fc] 35
      rwa [size_alloc, hb] at this
  have HH := hid_mk (And.intro hB (And.intro hnt (And.intro hnf (And.intro hts (And.intro hfs (And.intro hl1 (And.intro hl2 (And.intro hl3 hL))))))))
  clear hB hnt hnf hts hfs hl1 hl2 hl3 hL
  go_enter Tryd.func21, Tryd.ntmps21
  go_wp2_with fail
  obtain ⟨V, hV⟩ : ∃ V, (w.alloc (.cells #[.int .i64 x, .slice (some ⟨gt, 0, none⟩) nt ct, .slice (some ⟨gf, 0, none⟩) nf cf] 35)).alloc (.cells #[.int .i64 x, .slice ta nt tc, .slice fa nf fc] 35) = V := ⟨_, rfl⟩
  rw [hV] at HV ⊢
  clear hV
  obtain ⟨hB, hnt, hnf, hts, hfs, hl1, hl2, hl3, hL⟩ := HH.out
  obtain ⟨hq, hp, hO⟩ := HV.out
  have a0 := hq.cell (i := 0) rfl
  have a1 := hq.cell (i := 1) rfl
  have a2 := hq.cell (i := 2) rfl
  have b0 := hp.cell (i := 0) rfl
  have b1 := hp.cell (i := 1) rfl
  have b2 := hp.cell (i := 2) rfl
  have hLV := hL.quiet hO
  obtain ⟨V3, hV3⟩ : ∃ V3, V.drew = V3 := ⟨_, rfl⟩
  have oV3 : Out 0 0 V V3 := by rw [← hV3]; exact (Out.refl 0 0 V).drew
  have HSm := hid_mk (same_any (w := V3) (B := w.heap.size) x x ts ts fs fs (some ⟨gt, 0, none⟩) ta (some ⟨gf, 0, none⟩) fa nt nt nf nf ct tc cf fc hnt hnt hnf hnf (hL.tx.kept (Lo.of_out (hO.trans oV3)) (Nat.le_refl _)) ((hts.up hB).kept (Lo.of_out (hO.trans oV3)) (Nat.le_refl _)) (hL.fn.kept (Lo.of_out (hO.trans oV3)) (Nat.le_refl _)) ((hfs.up hB).kept (Lo.of_out (hO.trans oV3)) (Nat.le_refl _)) ⟨by omega, by omega, fun f hf => by have := hl2 f hf; omega⟩)
  obtain ⟨gm, hmv, -⟩ := hL.2.2.1.bytes
  subst hmv
  have htl : vs.length = nt := hL.2.1.1.trans hnt
  have m1 : V.cell? ⟨gt, nt, none⟩ = some (.slice (some ⟨gm, 0, none⟩) 4 4) := by
    obtain ⟨g, cur, h1, -, h2, -⟩ := own_cellsX hLV.1 (by omega)
    cases h1
    exact h2 nt _ (by rw [List.getElem?_append_right (by omega), htl]; simp)
  have m2 : V.cell? ⟨gf, nf * 4, none⟩ = some (.int .i64 (-7)) := by
    obtain ⟨g, cur, h1, -, h2, -⟩ := own_cellsX hLV.2.2.2.1 (by omega)
    cases h1
    exact h2 (nf * 4) _ (by rw [List.getElem?_append_right (by rw [fcl_len hL.2.2.2.2.1, hnf]; exact Nat.le_refl _), fcl_len hL.2.2.2.2.1, hnf]; simp)
  have hw1 : wrap64 ((nt : Int) + 1) = (nt : Int) + 1 := wrap_up (k := 1) (by omega) (by omega)
  have hw2 : wrap64 ((nf : Int) + 1) = (nf : Int) + 1 := wrap_up (k := 1) (by omega) (by omega)
  have hx1 : IntKind.i64.wrap ((nt : Int) + 1) = (nt : Int) + 1 := wrap_ik (k := 1) (by omega) (by omega)
  have hx2 : IntKind.i64.wrap ((nf : Int) + 1) = (nf : Int) + 1 := wrap_ik (k := 1) (by omega) (by omega)
  have hc1 : (nt : Int) + 1 ≤ (ct : Int) := by have := own_cap hL.1; omega
  have hc2 : (nf : Int) + 1 ≤ (cf : Int) := by have := own_cap hL.2.2.2.1; omega
  have hz1 : (0 : Int) ≤ (nt : Int) + 1 := by omega
  have hz2 : (0 : Int) ≤ (nf : Int) + 1 := by omega
  have i1 : (nt : Int) < (nt : Int) + 1 := by omega
  have i2 : (nf : Int) < (nf : Int) + 1 := by omega
  have HLV := hid_mk hLV
  clear hB hnt hnf hts hfs hl1 hl2 hl3 hL hq hp hO hLV htl
  refine wp_region_held_drew (S := fun w' => (w'.cell? ⟨b, 0, none⟩ = some (.int .i64 x) ∧ w'.cell? ⟨b, 1, none⟩ = some (.slice (some ⟨gt, 0, none⟩) nt ct) ∧ w'.cell? ⟨b, 2, none⟩ = some (.slice (some ⟨gf, 0, none⟩) nf cf) ∧ w'.cell? ⟨b + 1, 0, none⟩ = some (.int .i64 x) ∧ w'.cell? ⟨b + 1, 1, none⟩ = some (.slice ta nt tc) ∧ w'.cell? ⟨b + 1, 2, none⟩ = some (.slice fa nf fc)) ∧ w'.cell? ⟨gt, nt, none⟩ = some (.slice (some ⟨gm, 0, none⟩) 4 4) ∧ w'.cell? ⟨gf, nf * 4, none⟩ = some (.int .i64 (-7))) (by kernel_rfl) ?hS1 (fun hHeld => ?rest1)
  case hS1 => exact ⟨⟨a0, a1, a2, b0, b1, b2⟩, m1, m2⟩
  refine tk 0 ?_
  refine tk 1 ?_
  refine wpAnyH_ready (rs := [2]) (by kernel_rfl) (by simp) ?_
  refine AllReadyH.cons rfl (fun KK hK => ?_) AllReadyH.nil
  simp only [xa, xb, xc]
  go_simp
  refine HSm.out.mono ?_
  rintro e w1 ⟨⟨sb, rfl, hsb⟩, o1⟩
  obtain rfl : sb = true := hsb.2 rfl
  have o9 : Out 0 0 V w1 := oV3.trans o1
  obtain ⟨g', e', hb'⟩ := (HLV.out.quiet o9).2.2.1.bytes
  cases e'
  have hcv := conv_bytes (c := 4) (n := 4) hb' rfl
  have hst : (strOfNums [109, 97, 114, 107]) = { data := #[109, 97, 114, 107] } := by kernel_rfl
  rw [hst] at hcv
  refine hK.out _ _ ?hS4 (fun hHeld2 => ?rest4)
  case hS4 => exact ⟨⟨o9.cell a0 (.inr (Nat.zero_le _)), o9.cell a1 (.inr (Nat.zero_le _)), o9.cell a2 (.inr (Nat.zero_le _)), o9.cell b0 (.inr (Nat.zero_le _)), o9.cell b1 (.inr (Nat.zero_le _)), o9.cell b2 (.inr (Nat.zero_le _))⟩, o9.cell m1 (.inr (Nat.zero_le _)), o9.cell m2 (.inr (Nat.zero_le _))⟩
  clear hK KK
  (try clear hHeld)
  have hHeld := hHeld2
  clear hHeld2
  (try simp only [Act.put, xa, xb, xc, xd, xe, xf])
  refine tk 3 ?_
  refine tk 4 ?_
  refine tk 5 ?_
  refine tk 6 ?_
  refine tk 7 ?_
  refine tk 8 ?_
  refine tk 9 ?_
  refine tk 10 ?_
  refine tk 11 ?_
  refine tk 12 ?_
  refine tk 13 ?_
  refine tk 14 ?_
  refine tk 15 ?_
  refine tk 16 ?_
  refine wpAnyH_ready (rs := [17]) (by kernel_rfl) (by simp) ?_
  refine AllReadyH.cons rfl (fun KK hK => ?_) AllReadyH.nil
  simp only [xa, xb, xc]
  go_simp
  refine hK.out _ _ ?hS19 (fun hHeld2 => ?rest19)
  case hS19 => exact hHeld
  clear hK KK
  (try clear hHeld)
  have hHeld := hHeld2
  clear hHeld2
  (try simp only [Act.put, xa, xb, xc, xd, xe, xf])
  refine tk 18 ?_
  refine tk 19 ?_
  refine tk 20 ?_
  refine tk 21 ?_
  refine tk 22 ?_
  refine tk 23 ?_
  refine tk 24 ?_
  refine tk 25 ?_
  refine tk 26 ?_
  refine tk 27 ?_
  refine tk 28 ?_
  refine tk 29 ?_
  refine tk 30 ?_
  refine tk 31 ?_
  refine tk 32 ?_
  refine tk 33 ?_
  refine tk 34 ?_
  refine tk 35 ?_
  refine wpAnyH_done (by kernel_rfl) ?_ _
  have HQ : Hid (Bl w1 b #[.int .i64 x, .slice (some ⟨gt, 0, none⟩) nt ct, .slice (some ⟨gf, 0, none⟩) nf cf] 35 ∧ Bl w1 (b + 1) #[.int .i64 x, .slice ta nt tc, .slice fa nf fc] 35 ∧ LnAt w1 lo gt ct gf cf vs (.slice (some ⟨gm, 0, none⟩) 4 4) cs ts fs ∧ Out 0 0 w w1) := hid_mk ⟨HV.out.1.kept o9 (.inr (Nat.zero_le _)), HV.out.2.1.kept o9 (.inr (Nat.zero_le _)), HLV.out.quiet o9, HV.out.2.2.trans o9⟩
  clear hcv hst hb' hsb o1 o9 hHeld a0 a1 a2 b0 b1 b2 m1 m2 hw1 hw2 hx1 hx2 hc1 hc2 hz1 hz2 i1 i2 HSm HLV HV oV3 hV3
  have a1 := HQ.out.1.cell (i := 1) rfl
  have a2 := HQ.out.1.cell (i := 2) rfl
  have b1 := HQ.out.2.1.cell (i := 1) rfl
  have b2 := HQ.out.2.1.cell (i := 2) rfl
  go_wp2
  go_loopw [5] (fun c wr => ∃ (i : Nat), c = .int .i64 i ∧ i ≤ nt ∧ wr = w1) (fun c _ => nt - (intOf c).toNat)
  case atStart => exact ⟨0, rfl, Nat.zero_le _, rfl⟩
  case round =>
    obtain ⟨i, rfl, him, rfl⟩ := hrel
    by_cases hgo : i < nt
    · obtain ⟨l1, l2⟩ := lt_d hgo
      obtain ⟨hB, hnt, hnf, hts, hfs, hl1, hl2, hl3, hL⟩ := HH.out
      obtain ⟨t, ht⟩ : ∃ t, ts[i]? = some t := ⟨_, List.getElem?_eq_getElem (by omega)⟩
      obtain ⟨g, off, pj, cj, rfl, hg, c1, hby⟩ := tx_cellX (hts.kept (C := B) (Lo.of_out HQ.out.2.2.2) (Nat.le_refl _)) ht
      obtain ⟨v, hv⟩ : ∃ v, vs[i]? = some v := ⟨_, List.getElem?_eq_getElem (by have := HQ.out.2.2.1.2.1.1; omega)⟩
      obtain ⟨gj, c2, rfl, hn2, y1, y2⟩ := (HQ.out.2.2.1.2.1.2 i v t hv ht).marks
      have d1 : wr.cell? ⟨gt, i, none⟩ = some (.slice (some ⟨gj, 0, none⟩) t.length c2) := by
        obtain ⟨g, cur, h1, -, h2, -⟩ := own_cellsX HQ.out.2.2.1.1 (by omega)
        cases h1
        exact h2 i _ (by rw [List.getElem?_append_left (by have := HQ.out.2.2.1.2.1.1; omega)]; exact hv)
      have hn3 := hl3 t (List.mem_of_getElem? ht)
      obtain ⟨n, hn⟩ : ∃ n, t.length = n := ⟨_, rfl⟩
      rw [hn] at c1 d1 y1 y2 hn2 hn3
      obtain ⟨e2, he2⟩ : ∃ e2, n + 2 = e2 := ⟨_, rfl⟩
      obtain ⟨e1, he1⟩ : ∃ e1, n + 1 = e1 := ⟨_, rfl⟩
      rw [he1] at y2
      have lmi : (i : Int) < (nt : Int) := by omega
      have hc2 : (e2 : Int) ≤ (c2 : Int) := by omega
      have i1 : (n : Int) < (e2 : Int) := by omega
      have i2 : (e1 : Int) < (e2 : Int) := by omega
      have HI : Hid (i < nt ∧ nt ≤ 300000) := hid_mk ⟨hgo, by omega⟩
      have hn6 : n ≤ 1000000 := by omega
      have hy2 : wrap64 ((n : Int) + 2) = (e2 : Int) := wrap_at (k := 2) hn6 (by decide) he2
      have hy1 : wrap64 ((n : Int) + 1) = (e1 : Int) := wrap_at (k := 1) hn6 (by decide) he1
      clear he1 he2 hn6
      clear hB hnt hnf hts hfs hl1 hl2 hl3 hL ht hg hby hv hn2 hn3 hn hgo him
      go_wp2
      exact ⟨⟨i + 1, up_V HI.out.1 (by have := HI.out; omega), HI.out.1, trivial⟩, by rw [up_W HI.out.1 (by have := HI.out; omega)]; exact ms_N HI.out.1⟩
    · obtain rfl : nt = i := by omega
      have l1 : decide ((nt : Int) < (nt : Int)) = false := by simp
      clear hgo him
      go_wp2
      go_loopw [8] (fun c w2 => ∃ (j : Nat), c = .int .i64 j ∧ j ≤ nf ∧ w2 = wr) (fun c _ => nf - (intOf c).toNat)
      case atStart => exact ⟨0, rfl, Nat.zero_le _, rfl⟩
      case round =>
        obtain ⟨j, rfl, hjm, rfl⟩ := hrel
        by_cases hgo : j < nf
        · obtain ⟨l1, l2⟩ := lt_d hgo
          obtain ⟨hB, hnt, hnf, hts, hfs, hl1, hl2, hl3, hL⟩ := HH.out
          obtain ⟨f, hf⟩ : ∃ f, fs[j]? = some f := ⟨_, List.getElem?_eq_getElem (by omega)⟩
          obtain ⟨g, off, pj, cj, rfl, hg, -, -, -, c3, -⟩ := fn_cell (hfs.kept (C := B) (Lo.of_out HQ.out.2.2.2) (Nat.le_refl _)) hf
          obtain ⟨v, hv⟩ : ∃ v, cs[j]? = some v := ⟨_, List.getElem?_eq_getElem (by have := HQ.out.2.2.1.2.2.2.2.1; omega)⟩
          obtain ⟨gj, c2, rfl, hn2, y1⟩ := (HQ.out.2.2.1.2.2.2.2.2.1 j v f hv hf).marks
          have d3 : wr.cell? ⟨gf, j * 4 + 3, none⟩ = some (.slice (some ⟨gj, 0, none⟩) f.2.2.2.length c2) := by
            obtain ⟨g, cur, h1, -, h2, -⟩ := own_cellsX HQ.out.2.2.1.2.2.2.1 (by omega)
            cases h1
            exact h2 _ _ (by rw [List.getElem?_append_left (by rw [fcl_len HQ.out.2.2.1.2.2.2.2.1]; omega)]; exact (fcl_at hf hv).2.2.2)
          have hn3 := hl2 f (List.mem_of_getElem? hf)
          obtain ⟨n, hn⟩ : ∃ n, f.2.2.2.length = n := ⟨_, rfl⟩
          rw [hn] at c3 d3 y1 hn2 hn3
          obtain ⟨e1, he1⟩ : ∃ e1, n + 1 = e1 := ⟨_, rfl⟩
          have lmi : (j : Int) < (nf : Int) := by omega
          have hc2 : (e1 : Int) ≤ (c2 : Int) := by omega
          have i1 : (n : Int) < (e1 : Int) := by omega
          have HI : Hid (j < nf ∧ nf ≤ 300000) := hid_mk ⟨hgo, by omega⟩
          have hn6 : n ≤ 1000000 := by omega
          have hy1 : wrap64 ((n : Int) + 1) = (e1 : Int) := wrap_at (k := 1) hn6 (by decide) he1
          clear he1 hn6
          clear hB hnt hnf hts hfs hl1 hl2 hl3 hL hf hg hv hn2 hn3 hn hgo hjm
          go_wp2
          exact ⟨⟨j + 1, up_V HI.out.1 (by have := HI.out; omega), HI.out.1, trivial⟩, by rw [up_W HI.out.1 (by have := HI.out; omega)]; exact ms_N HI.out.1⟩
        · obtain rfl : nf = j := by omega
          have l1 : decide ((nf : Int) < (nf : Int)) = false := by simp
          clear hgo hjm
          go_wp2
          go_ret
          exact ⟨rfl, HQ.out.2.2.2⟩
end Go.Proofs.YtapjfokkcgdhhaaDoor
