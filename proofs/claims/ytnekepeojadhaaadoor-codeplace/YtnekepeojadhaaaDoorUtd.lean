/- the law: CodeCut -/
import Derived.Test.YtnekepeojadhaaaDoorUtc
namespace Go.Proofs.YtnekepeojadhaaaDoor
open Go.RowKit
set_option linter.unusedVariables false
set_option linter.unusedSimpArgs false

theorem slice_to (ra : Option Addr) (K cap n : Nat) (h : n ≤ cap) : ∃ A' C', (∀ W, (Instr.sliceAt 33 (.slice ra K cap) none (some (.int .i64 (n : Int))) none).run Tryd.prog W = .ok (.slice A' n C') W) ∧ (A' = ra ∧ cap = 0 ∨ A' = ra.map (·.add 0)) := by
  obtain ⟨i0, hi, hz0, hz1, hz2⟩ := info_p info_u8
  have hu : Tryd.prog.underlying 33 = some (.slice (Tryd.prog.elem 33)) := by kernel_rfl
  have he : Tryd.prog.elem 33 = 5 := by kernel_rfl
  have key : ∀ W, (Instr.sliceAt 33 (.slice ra K cap) none (some (.int .i64 (n : Int))) none).run Tryd.prog W = .ok (sliced ra 0 n cap 1) W := by
    intro W
    rw [run_sliceAt_slice W _ _ _ _ _ hu, run_slice_h W _ _ _ _ hu _ _ (by omega) (by omega), he]
    simp [sizeOf, typeInfo, hi, hz1, Result.andThen]
  refine ⟨if cap = 0 then ra else ra.map (·.add (0 * 1)), cap - 0, fun W => ?_, ?_⟩
  · rw [key W]
    unfold sliced
    rw [Nat.sub_zero]
  · by_cases hc : cap = 0
    · exact .inl ⟨if_pos hc, hc⟩
    · right; rw [if_neg hc, Nat.zero_mul]
/-- bytes that were copied: where they lie -/
theorem own_by {w w' : World} {a' : Option Addr} {n cap' : Nat} {t : List Int} (hB : Byt t) (h : w'.ownsRow w.heap.size 5 1 (.slice a' n cap') n (bvs t)) : ByIn w' w'.heap.size a' t ∧ n ≤ cap' := by
  refine ⟨ByIn.own hB h (fun q hq => (own_ge h hq).2), ?_⟩
  rcases h.2 with ⟨q, q'⟩ | ⟨g, c2, cur, q, _, _, h9, _⟩
  · cases q; omega
  · cases q; exact h9
theorem nil_out {w w' : World} (h : Fx (fun k => (Value.slice none 0 0).ownBlock = some k) w w') : Out 0 0 w w' := h.out (fun k _ q => by cases q)
set_option maxRecDepth 100000 in
set_option maxHeartbeats 4000000 in
theorem cut_any {w : World} (hT : Ty w) (x : Int) (ts : List (List Int)) (fs : List (Int × Int × Int × List (Int × Int))) (ta fa : Option Addr) (nt tc nf fc : Nat) (hnt : ts.length = nt) (hnf : fs.length = nf) (hts : TxIn w w.heap.size ta ts) (hfs : FnIn w w.heap.size fa fs) (hM : ∀ f ∈ fs, MI f.2.2.2)
    (h1 : Lim nt) (h2 : Lim nf) (h3 : ∀ t ∈ ts, Lim t.length) (h4 : ∀ f ∈ fs, Lim f.2.2.2.length) (c : Int) (hc64 : -9223372036854775808 ≤ c ∧ c ≤ 9223372036854775807) (ba : Option Addr) (n cap : Nat) (bs : List Int) (hin : ByIn w w.heap.size ba bs) (hn : bs.length = n) (hc : n ≤ cap) :
    Calls Tryd.prog 7 #[.agg #[.int .i64 x, .slice ta nt tc, .slice fa nf fc], .int .i64 c, .slice ba n cap] w fun e w' => e = .returned (.bool true) ∧ Out 0 0 w w' := by
  have HA := hid_mk (Bl.new w #[.int .i64 x, .slice ta nt tc, .slice fa nf fc] 25)
  have HO := hid_mk ((Out.refl 0 0 w).alloc (.cells #[.int .i64 x, .slice ta nt tc, .slice fa nf fc] 25))
  obtain ⟨V, hV⟩ : ∃ V, w.alloc (.cells #[.int .i64 x, .slice ta nt tc, .slice fa nf fc] 25) = V := ⟨_, rfl⟩
  rw [hV] at HA HO
  have HTy := hid_mk hT
  obtain ⟨p, hp⟩ : ∃ p, w.heap.size = p := ⟨_, rfl⟩
  rw [hp] at HA hts hfs hin
  have hpl : Hid (p ≤ V.heap.size) := hid_mk (by have := HA.out.lt; omega)
  have HT := hid_mk (hts.kept (Lo.of_out HO.out) (Nat.le_refl _))
  have HF := hid_mk (hfs.kept (Lo.of_out HO.out) (Nat.le_refl _))
  have HI := hid_mk (hin.kept (Lo.of_out HO.out) (Nat.le_refl _))
  have HN := hid_mk (And.intro hnt (And.intro hnf (And.intro hn hc)))
  have HM := hid_mk hM
  have HC := hid_mk hc64
  have HFt := hid_mk (fits_any x ts fs ta fa nt nf tc fc hnt hnf HT.out HF.out h1 h2 h3 h4)
  have a0 := HA.out.cell (i := 0) rfl
  have a1 := HA.out.cell (i := 1) rfl
  have a2 := HA.out.cell (i := 2) rfl
  clear hts hfs hnt hnf h1 h2 h3 h4 hT hin hn hc hM hc64
  go_enter Tryd.func7, Tryd.ntmps7
  go_wp2_with fail
  (try rw [hV])
  (try rw [hp])
  clear hV hp a0 a1 a2
  refine HFt.out.mono ?_
  rintro e w1 ⟨⟨b, rfl, hb⟩, o1⟩
  cases b with
  | false =>
    have HO1 := hid_mk (HO.out.trans o1)
    clear o1 hb
    go_wp2_with (go_at_call 10; refine (alive_any (HTy.out.out HO1.out (.inr rfl))).mono ?_; rintro e w2 ⟨rfl, o2⟩)
    go_ret
    exact ⟨rfl, HO1.out.trans o2⟩
  | true =>
    have HB := hid_mk (hb rfl)
    have HO1 := hid_mk (HO.out.trans o1)
    have HV1 := hid_mk o1
    have b1 := kept0 HA.out o1
    have a0 := b1.cell (i := 0) rfl
    have a1 := b1.cell (i := 1) rfl
    have a2 := b1.cell (i := 2) rfl
    clear o1 hb b1
    by_cases hL : (1000 : Int) < (n : Int)
    · have hd : decide ((1000 : Int) < (n : Int)) = true := by simpa using hL
      clear hL
      go_wp2_with (go_at_call 10; refine (alive_any (HTy.out.out HO1.out (.inr rfl))).mono ?_; rintro e w2 ⟨rfl, o2⟩)
      go_ret
      exact ⟨rfl, HO1.out.trans o2⟩
    · have hd : decide ((1000 : Int) < (n : Int)) = false := by simpa using hL
      have HL : Hid (n ≤ 1000) := hid_mk (by omega)
      clear hL
      have HBt := hid_mk (wr_byt (P := (x, ts, fs)) (tx_byt HT.out))
      go_wp2_with fail
      refine (write_at (HTy.out.out HO1.out (.inr rfl)) (Nat.le_trans hpl.out HV1.out.size) x ts fs ta fa nt tc nf fc HN.out.1 HN.out.2.1 (HT.out.kept (Lo.of_out HV1.out) (Nat.le_refl _)) (HF.out.kept (Lo.of_out HV1.out) (Nat.le_refl _)) HM.out HBt.out).mono ?_
      rintro e w2 ⟨ra, K, cap2, rfl, o2, hb2, hK2, hc2⟩
      clear a0 a1 a2
      have HV2 := hid_mk (HV1.out.trans o2)
      have HO2 := hid_mk (HO1.out.trans o2)
      clear o2
      by_cases hgood : okP (x, ts, fs) ∧ (encP (x, ts, fs)).length ≤ 65536
      · obtain ⟨hok, hlen⟩ := hgood
        have hw2 := wr_ok hok hlen
        rw [hw2.2] at hb2 hK2
        rw [hw2.1]
        obtain ⟨E, hE⟩ : ∃ E, encP (x, ts, fs) = E := ⟨_, rfl⟩
        rw [hE] at hb2 hK2
        have HCut : Hid (∀ k, k < E.length → wholeR (E.take k) = .inl (61, k)) := hid_mk fun k hk => by rw [← hE] at hk ⊢; exact whole_cut hok hk
        have HMore : Hid (∀ m : List Int, m ≠ [] → wholeR (E ++ m) = .inl (60, E.length)) := hid_mk fun m hm => by rw [← hE]; exact whole_more hok hm
        have HB2 := hid_mk hb2
        have HK2 := hid_mk hK2
        have HC2 := hid_mk hc2
        have HKl : Hid (K ≤ 65536 ∧ 0 < K) := hid_mk (by
          have h0 : 4 ≤ E.length := by rw [← hE]; unfold encP; rw [List.length_append]; simp
          rw [hE] at hlen; omega)
        have HEB : Hid (Byt E) := hid_mk hb2.1
        clear hok hlen hw2 hb2 hK2 hc2 hE
        have hK0 : ((K : Int) == 0) = false := by have := HKl.out; simp; omega
        have hkp : (0 : Int) < (K : Int) := by have := HKl.out; omega
        obtain ⟨k, hk⟩ : ∃ k, wiV c K = k := ⟨_, rfl⟩
        have HkK : Hid (k < K) := hid_mk (by rw [← hk]; exact wi_lt HKl.out.2)
        have HWi : Hid (∀ W : World, Calls Tryd.prog 17 #[.int .i64 c, .int .i64 K] W fun e w' => e = .returned (.int .i64 (k : Int)) ∧ w' = W) := hid_mk fun W => by rw [← hk]; exact within_any c K HKl.out.2 HC.out
        clear hk
        obtain ⟨A', C', hsl, hA'⟩ := slice_to ra K cap2 k (by have := HkK.out; have := HC2.out; omega)
        have HA2 := hid_mk hA'
        clear hA'
        go_wp2_with (first
          | (go_at_call 10; refine (alive_any (HTy.out.out HO2.out (.inr rfl))).mono ?_; rintro e w3 ⟨rfl, o3⟩; have HV3 := hid_mk o3; clear o3)
          | (go_at_call 17; refine calls_same (HWi.out _) ?_)
          | (at_builtin; refine app_step (base := w3.heap.size) (bs := []) (x := (E.drop 0).take k) rfl _ _ rfl rfl rfl (World.ownsRow_nil _ _ _ 1) (Nat.le_refl _) (piece_in (HB2.out.kept (Lo.of_out HV3.out) (Nat.le_refl _)) HK2.out (by have := HkK.out; omega) HC2.out HA2.out).bytes (by rw [List.drop_zero, List.length_take, HK2.out]; have := HkK.out; omega) (by omega) (by have := HkK.out; have := HKl.out; omega) ?_))
        intro a4 c4 w4 q1 q2 q3
        (try rw [Nat.zero_add, List.nil_append, List.drop_zero] at q1)
        (try rw [List.drop_zero] at q1)
        (try rw [Nat.zero_add])
        obtain ⟨hb4, hc4⟩ := own_by ((HEB.out.take k)) q1
        have HV4 := hid_mk (HV3.out.trans (nil_out q2))
        have HB4 := hid_mk hb4
        have HC4 := hid_mk hc4
        clear q1 q2 q3 hb4 hc4 hsl
        go_wp2_with fail
        refine (read_any (HTy.out.out (HO2.out.trans HV4.out) (.inr rfl)) (Nat.le_refl _) HB4.out (by rw [List.length_take, HK2.out]; have := HkK.out; omega) HC4.out).mono ?_
        intro e w5 hq
        obtain ⟨o5, rfl⟩ := rd_err hq (by have := HkK.out; have := HKl.out; omega) (HCut.out k (by rw [HK2.out]; exact HkK.out))
        have HV5 := hid_mk (HV4.out.trans o5)
        have HQ5 := hid_mk (HV5.out.alloc (.cells #[.int .i64 0, .slice none 0 0, .slice none 0 0] 25))
        have bq := Bl.new w5 #[.int .i64 0, .slice none 0 0, .slice none 0 0] 25
        have HBq := hid_mk bq
        clear hq o5 bq
        have hkk : ((k : Int) != (k : Int)) = false := by simp
        by_cases hn0 : n = 0
        · have hz : ((n : Int) == 0) = true := by simp [hn0]
          clear hn0
          go_wp2_with (go_at_call 16; refine (same_any (B := 0) 0 0 [] [] [] [] none none none none 0 0 0 0 0 0 0 0 rfl rfl rfl rfl (.inl rfl) (.inl rfl) (.inl rfl) (.inl rfl) ⟨by decide, by decide, by intro f hf; cases hf⟩).mono ?_; rintro e w7 ⟨⟨bb, rfl, hbb⟩, o7⟩; have hbt : bb = true := hbb.2 rfl; subst hbt; have HO7 := hid_mk ((HO2.out.trans HQ5.out).trans o7); clear o7 hbb)
          go_ret
          exact ⟨rfl, HO7.out⟩
        · have hz : ((n : Int) == 0) = false := by simp [hn0]
          have HN0 := hid_mk hn0
          clear hn0
          have hsm : (n : Int) ≤ 1000 := by have := HL.out; omega
          have hKm : (K : Int) ≤ 65536 := by have := HKl.out; omega
          by_cases hbig : (65536 : Int) < (K : Int) + (n : Int)
          · have hbd : decide ((65536 : Int) < (K : Int) + (n : Int)) = true := by simpa using hbig
            clear hbig
            go_wp2_with (go_at_call 16; refine (same_any (B := 0) 0 0 [] [] [] [] none none none none 0 0 0 0 0 0 0 0 rfl rfl rfl rfl (.inl rfl) (.inl rfl) (.inl rfl) (.inl rfl) ⟨by decide, by decide, by intro f hf; cases hf⟩).mono ?_; rintro e w7 ⟨⟨bb, rfl, hbb⟩, o7⟩; have hbt : bb = true := hbb.2 rfl; subst hbt; have HO7 := hid_mk ((HO2.out.trans HQ5.out).trans o7); clear o7 hbb)
            go_ret
            exact ⟨rfl, HO7.out⟩
          · have hbd : decide ((65536 : Int) < (K : Int) + (n : Int)) = false := by simpa using hbig
            have HBig : Hid (K + n ≤ 65536) := hid_mk (by omega)
            clear hbig
            go_wp2_with (first
              | (go_at_call 16; refine (same_any (B := 0) 0 0 [] [] [] [] none none none none 0 0 0 0 0 0 0 0 rfl rfl rfl rfl (.inl rfl) (.inl rfl) (.inl rfl) (.inl rfl) ⟨by decide, by decide, by intro f hf; cases hf⟩).mono ?_; rintro e w7 ⟨⟨bb, rfl, hbb⟩, o7⟩; have hbt : bb = true := hbb.2 rfl; subst hbt; have HV7 := hid_mk (HQ5.out.trans o7); have HB7 := hid_mk (kept0 HBq.out o7); clear o7 hbb)
              | (at_builtin; refine app_step (base := w7.heap.size) (bs := []) (x := E) rfl _ _ rfl rfl rfl (World.ownsRow_nil _ _ _ 1) (Nat.le_refl _) (HB2.out.kept (Lo.of_out HV7.out) (Nat.le_refl _)).bytes HK2.out (by omega) (by have := HKl.out; omega) ?_))
            intro a8 c8 w8 q1 q2 q3
            (try rw [Nat.zero_add, List.nil_append] at q1)
            (try rw [Nat.zero_add])
            have HV8 := hid_mk (nil_out q2)
            have HW8 := hid_mk q1
            have hsz8 : Hid (w7.heap.size ≤ w8.heap.size) := hid_mk q2.size
            clear q1 q2 q3
            go_wp2_with (at_builtin; refine app_step (base := w7.heap.size) (bs := E) (x := bs) rfl _ _ rfl rfl rfl HW8.out hsz8.out (HI.out.kept (Lo.of_out ((HV2.out.trans HV7.out).trans HV8.out)) (Nat.le_refl _)).bytes HN.out.2.2.1 (by have := HKl.out; omega) (by have := HL.out; omega) ?_)
            intro a9 c9 w9 q1 q2 q3
            have HV9 : Hid (Out 0 0 w7 w9) := hid_mk (by
              refine ⟨q2.1.trans HV8.out.1, q2.2.1.trans HV8.out.2.1, q2.2.2.1.trans HV8.out.2.2.1, Nat.le_trans HV8.out.size q2.size, fun r h1 h2 => (q2.2.2.2.2 r (Nat.lt_of_lt_of_le h1 HV8.out.size) (fun e => ?_)).trans (HV8.out.block h1 h2)⟩
              have := (own_ge HW8.out e).1
              omega)
            obtain ⟨hb9, hc9⟩ := own_by (w := w7) (HEB.out.app HI.out.1) q1
            have HB9 := hid_mk hb9
            have HC9 := hid_mk hc9
            have bz := kept0 HB7.out HV9.out
            clear q1 q2 q3 hb9 hc9
            obtain ⟨M, hMM⟩ : ∃ M, K + n = M := ⟨_, rfl⟩
            rw [hMM] at HC9 ⊢
            have HMM := hid_mk hMM
            clear hMM
            go_wp2_with fail
            refine (read_any (HTy.out.out ((HO2.out.trans HV7.out).trans HV9.out) (.inr rfl)) (Nat.le_refl _) HB9.out (by rw [List.length_append, HK2.out, HN.out.2.2.1]; exact HMM.out) HC9.out).mono ?_
            intro e w10 hq
            obtain ⟨o10, rfl⟩ := rd_err hq (by have := HBig.out; have := HMM.out; omega) (HMore.out bs (fun e => HN0.out (by rw [← HN.out.2.2.1, e]; rfl)))
            rw [HK2.out]
            have b10 := kept0 bz o10
            have y0 := b10.cell (i := 0) rfl
            have y1 := b10.cell (i := 1) rfl
            have y2 := b10.cell (i := 2) rfl
            have z0 := b10.frozen 0
            have z1 := b10.frozen 1
            have z2 := b10.frozen 2
            have HO10 := hid_mk (((HO2.out.trans HV7.out).trans HV9.out).trans o10)
            have h5s : Hid (w.heap.size ≤ w5.heap.size) := hid_mk (HO2.out.trans HV5.out).size
            have HS0 := hid_mk (((b10.set 0 (.int .i64 0)).set 1 (.slice none 0 0)).set 2 (.slice none 0 0))
            have HSO := hid_mk (((HO10.out.setCell (p := ⟨w5.heap.size, 0, none⟩) (.inr h5s.out) (.int .i64 0)).setCell (p := ⟨w5.heap.size, 1, none⟩) (.inr h5s.out) (.slice none 0 0)).setCell (p := ⟨w5.heap.size, 2, none⟩) (.inr h5s.out) (.slice none 0 0))
            have s0 := HS0.out.cell (i := 0) rfl
            have s1 := HS0.out.cell (i := 1) rfl
            have s2 := HS0.out.cell (i := 2) rfl
            have hKK : ((K : Int) == (K : Int)) = true := by simp
            clear hq o10 b10 bz
            go_wp2_with (go_at_call 16; refine (same_any (B := 0) 0 0 [] [] [] [] none none none none 0 0 0 0 0 0 0 0 rfl rfl rfl rfl (.inl rfl) (.inl rfl) (.inl rfl) (.inl rfl) ⟨by decide, by decide, by intro f hf; cases hf⟩).mono ?_; rintro e w11 ⟨⟨bb, rfl, hbb⟩, o11⟩; have hbt : bb = true := hbb.2 rfl; subst hbt; clear hbb)
            go_ret
            exact ⟨rfl, HSO.out.trans o11⟩
      · have hE0 : ∃ E : Int, wrE (x, ts, fs) = E ∧ (E != 0) = true := by
          by_cases hok : okP (x, ts, fs)
          · exact ⟨2, (wr_long hok (by rcases Nat.lt_or_ge 65536 (encP (x, ts, fs)).length with q | q; exact q; exact absurd ⟨hok, q⟩ hgood)).1, by decide⟩
          · exact ⟨62, (wr_form hok).1, by decide⟩
        obtain ⟨E, hE, hE1⟩ := hE0
        rw [hE]
        clear hE hgood hb2 hK2 hc2
        go_wp2_with (go_at_call 10; refine (alive_any (HTy.out.out HO2.out (.inr rfl))).mono ?_; rintro e w3 ⟨rfl, o3⟩; have HO2 := hid_mk (HO2.out.trans o3); clear o3)
        go_ret
        exact ⟨rfl, HO2.out⟩
end Go.Proofs.YtnekepeojadhaaaDoor
