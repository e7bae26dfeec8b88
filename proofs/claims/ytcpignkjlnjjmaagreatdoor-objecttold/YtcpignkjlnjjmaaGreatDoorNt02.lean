import Derived.Test.YtcpignkjlnjjmaaGreatDoorNt01
namespace Go.Proofs.YtcpignkjlnjjmaaGreatDoor
open Go.RowKit
set_option linter.unusedVariables false
set_option linter.unusedSimpArgs false

theorem bytes_kept {w w' : World} {p : Option Addr} {t : List Int} (h : BytesAt w p t) (o : Out 0 0 w w') : BytesAt w' p t := by
  refine ⟨h.1, ?_⟩
  rcases h.2 with h | ⟨g, off, h1, h3⟩
  · exact .inl h
  · exact .inr ⟨g, off, h1, fun j x hj => o.cell (h3 j x hj) (.inr (Nat.zero_le _))⟩
def costTo (ts : List (List Int)) (i : Nat) : Nat := ((ts.take i).map fun t => 24 + t.length).sum
theorem cost_succ {ts : List (List Int)} {i : Nat} {t : List Int} (h : ts[i]? = some t) : costTo ts (i + 1) = costTo ts i + 24 + t.length := by
  unfold costTo
  rw [List.take_add_one, h]
  simp
  omega
theorem cost_ge {ts : List (List Int)} : ∀ {i : Nat}, i ≤ ts.length → 24 * i ≤ costTo ts i
  | 0, _ => by omega
  | i + 1, h => by
    have ih := cost_ge (ts := ts) (i := i) (by omega)
    rw [cost_succ (List.getElem?_eq_getElem (show i < ts.length by omega))]
    omega
theorem cost_le {ts : List (List Int)} {i : Nat} : ∀ {k : Nat}, i ≤ k → k ≤ ts.length → costTo ts i ≤ costTo ts k
  | 0, h, _ => by rw [show i = 0 from by omega]; exact Nat.le_refl _
  | k + 1, h, hk => by
    by_cases e : i = k + 1
    · subst e; exact Nat.le_refl _
    · have ih := cost_le (ts := ts) (i := i) (k := k) (by omega) (by omega)
      rw [cost_succ (List.getElem?_eq_getElem (show k < ts.length by omega))]
      omega
/-- the law's heap, with the texts that it has made -/
def TSt (w0 : World) (lo hi : Nat) (s : Nat → Nat) (cap hb : Nat) (ts : List (List Int)) (v : Value) (wr : World) (st : Sp) (l : List Nat) : Prop :=
  SpAt wr lo hi s 160 cap st ∧ Rt 160 st ∧ wr.cell? ⟨hb, 0, none⟩ = some (.pointer (some ⟨s 14, 0, none⟩)) ∧ VListIs wr (hb + 1) v l ∧ (∀ j q : Nat, l[j]? = some q → ∃ t, ts[j]? = some t ∧ TxOk st q t) ∧ Out 0 0 w0 wr ∧ PgI st.S st.O (costTo ts l.length) ∧ st.last = l.length ∧ hb < wr.heap.size
theorem TSt.quiet {w0 wr w' : World} {lo hi cap hb : Nat} {s : Nat → Nat} {ts : List (List Int)} {v : Value} {st : Sp} {l : List Nat} (h : TSt w0 lo hi s cap hb ts v wr st l) (o : Out 0 0 wr w') : TSt w0 lo hi s cap hb ts v w' st l := by
  obtain ⟨h1, h2, h3, h4, h5, h6, h7, h8, h9⟩ := h
  exact ⟨h1.quiet o, h2, o.cell h3 (.inr (Nat.zero_le _)), h4.kept o (Nat.zero_le _), h5, h6.trans o, h7, h8, Nat.lt_of_lt_of_le h9 o.size⟩
theorem TSt.next {w0 wr X3 X4 X5 X7 : World} {lo hi cap hb y a : Nat} {s : Nat → Nat} {ts : List (List Int)} {v v' : Value} {st st2 : Sp} {l : List Nat} {t : List Int} (h : TSt w0 lo hi s cap hb ts v wr st l) (ht : ts[l.length]? = some t) (o3 : Out 0 0 wr X3) (o4 : Out lo hi X3 X4) (S4 : SpAt X4 lo hi s 160 cap st2) (o5 : Out 0 0 X4 X5) (o7 : Out (hb + 1) y X5 X7) (hv : VListIs X7 (hb + 1) v' (l ++ [a])) (hR : Rt 160 st2) (hT2 : TxOk st2 a t) (hall : ∀ b t', TxOk st b t' → TxOk st2 b t') (hP : PgI st2.S st2.O (costTo ts l.length + 24 + t.length)) (hla : st2.last = st.last + 1) (hh : hi ≤ hb) (hlo : w0.heap.size = lo) : TSt w0 lo hi s cap hb ts v' X7 st2 (l ++ [a]) := by
  obtain ⟨h1, h2, h3, h4, h5, h6, h7, h8, h9⟩ := h
  have hg := h1.1.glob
  have hl := h1.1.inn 14 (by omega)
  refine ⟨(S4.quiet o5).kept o7 (.inl (by omega)) (.inl (by omega)), hR, o7.cell (o5.cell (o4.cell (o3.cell h3 (.inr (Nat.zero_le _))) (.inr hh)) (.inr (Nat.zero_le _))) (.inl (Nat.lt_succ_self _)), hv, fun j q hq => ?_, (((h6.trans o3).then o4 (by omega)).trans o5).then o7 (by omega), ?_, ?_, Nat.lt_of_lt_of_le h9 (Nat.le_trans o3.size (Nat.le_trans o4.size (Nat.le_trans o5.size o7.size)))⟩
  · by_cases c : j < l.length
    · rw [List.getElem?_append_left c] at hq
      obtain ⟨t', k1, k2⟩ := h5 j q hq
      exact ⟨t', k1, hall q t' k2⟩
    · have hj : j = l.length := by
        have := (List.getElem?_eq_some_iff.1 hq).1
        simp at this
        omega
      subst hj
      rw [List.getElem?_append_right (Nat.le_refl _)] at hq
      have e : a = q := by simpa using hq
      subst e
      exact ⟨t, ht, hT2⟩
  · rw [List.length_append, List.length_singleton, cost_succ ht]; exact hP
  · rw [hla, h8, List.length_append]; simp
set_option maxRecDepth 100000 in
set_option maxHeartbeats 8000000 in
theorem told_any {w : World} (hT : Tab w) {p : Option Addr} {ts : List (List Int)} {cap0 : Nat} (hL : TextsAt w w.heap.size p ts) (hb1 : ∀ t ∈ ts, t.length ≤ 140737488351232) (hb2 : ts.length ≤ 9223372036854775807) :
    Calls Tryz.prog 3 #[.slice p ts.length cap0] w fun e w' => e = .returned (.bool true) ∧ Out 0 0 w w' := by
  have HT := hid_mk hT
  have HL := hid_mk hL
  have Hb := hid_mk (And.intro hb1 hb2)
  have hlen : (ts.length : Int) ≤ 9223372036854775807 := by omega
  clear hT hL hb1 hb2
  go_enter Tryz.func3, Tryz.ntmps3
  go_wp2_with fail
  refine (alive_any HT.out).mono ?_
  rintro e X1 ⟨rfl, o1⟩
  have HO1 := hid_mk o1
  have HT1 := hid_mk (HT.out.quiet o1)
  have HL1 := hid_mk (HL.out.kept o1 (.inr rfl))
  clear o1 HT HL
  go_wp2_with fail
  go_loopw [3, 4] (fun x y wr => ∃ i : Nat, i ≤ ts.length ∧ x = .int .i64 (costTo ts i : Nat) ∧ y = .int .i64 i ∧ X1 = wr ∧ costTo ts i ≤ 140737488355256) (fun _ y _ => ts.length - (intOf y).toNat)
  case atStart => exact ⟨0, Nat.zero_le _, rfl, rfl, rfl, by simp [costTo]⟩
  case round =>
    obtain ⟨i, i1, rfl, rfl, rfl, hc⟩ := hrel
    have i0 : (0 : Int) ≤ (i : Int) := by omega
    obtain ⟨C, hC⟩ : ∃ C, costTo ts i = C := ⟨_, rfl⟩
    rw [hC] at hc ⊢
    have c0 : (0 : Int) ≤ (C : Int) := by omega
    have c1 : (C : Int) ≤ 140737488355256 := by omega
    by_cases hgo : i < ts.length
    · have g1 : (i : Int) < (ts.length : Int) := by omega
      by_cases h4 : C ≤ 4000
      · have g2 : (C : Int) ≤ 4000 := by omega
        obtain ⟨t, ht⟩ : ∃ t, ts[i]? = some t := ⟨_, List.getElem?_eq_getElem hgo⟩
        rcases HL1.out with e | ⟨g, off, rfl, hg, hcell⟩
        · rw [e] at hgo; simp at hgo
        obtain ⟨pj, cj, c2, _⟩ := hcell i t ht
        have hl := Hb.out.1 t (List.mem_of_getElem? ht)
        have hl' : (t.length : Int) ≤ 140737488351232 := by omega
        have hl0 : (0 : Int) ≤ (t.length : Int) := by omega
        have hs := cost_succ ht
        rw [hC] at hs
        clear hcell
        go_wp2_with fail
        refine ⟨⟨i + 1, hgo, ?_, by go_num, trivial, by rw [hs]; omega⟩, by simp [intOf]; omega⟩
        rw [hs]
        go_num
      · have g2 : (4000 : Int) < (C : Int) := by omega
        go_wp2
        go_ret
        exact ⟨rfl, HO1.out⟩
    · have g1 : (ts.length : Int) ≤ (i : Int) := by omega
      have ei : i = ts.length := by omega
      subst ei
      by_cases h4 : C ≤ 4000
      · have g2 : (C : Int) ≤ 4000 := by omega
        have HN := hid_mk (NewS HT1.out 160 (by omega) (by omega))
        rw [show ((160 : Nat) : Int) = 160 from rfl] at HN
        have HC := hid_mk (And.intro hC h4)
        have H166 : Hid (ts.length ≤ 166) := by
          have := cost_ge (ts := ts) (Nat.le_refl _)
          show ts.length ≤ 166
          omega
        clear hC h4 hc hgo i1
        go_wp2_with fail
        refine HN.out.mono ?_
        rintro e X2 ⟨s, cap, hi, hb, rfl, S1, hh, hc, o1⟩
        obtain ⟨lo, hlo⟩ : ∃ lo, X1.heap.size = lo := ⟨_, rfl⟩
        have HLo := hid_mk hlo
        rw [hlo] at S1
        have HX : Hid (hb < X2.heap.size) := cell_lt hc
        have HM0 : Hid (TSt X1 lo hi s cap hb ts (.slice none 0 0) X2 newSp []) := ⟨S1, rt_new, hc, VListIs.nil _ _, (fun j q hq => by simp at hq), o1, PgI.new, rfl, cell_lt hc⟩
        have Hh := hid_mk hh
        have l166 : (ts.length : Int) ≤ 166 := by have := H166.out; omega
        clear HN hlo S1 hc o1 hh
        go_wp2_with fail
        go_loopw [7, 8] (fun v x wr => ∃ (st : Sp) (l : List Nat), l.length ≤ ts.length ∧ x = .int .i64 l.length ∧ TSt X1 lo hi s cap hb ts v wr st l) (fun _ x _ => ts.length - (intOf x).toNat)
        case atStart => exact ⟨newSp, [], Nat.zero_le _, rfl, HM0.out⟩
        case round =>
          obtain ⟨st, l, k1, rfl, hM⟩ := hrel
          have HM := hid_mk hM
          clear hM HM0
          obtain ⟨i, hli⟩ : ∃ i, l.length = i := ⟨_, rfl⟩
          have Hli := hid_mk hli
          rw [hli] at k1 ⊢
          clear hli
          have i0' : (0 : Int) ≤ (i : Int) := by omega
          by_cases hgo : i < ts.length
          · have g4 : (i : Int) < (ts.length : Int) := by omega
            obtain ⟨t, ht⟩ : ∃ t, ts[i]? = some t := ⟨_, List.getElem?_eq_getElem hgo⟩
            rcases HL1.out with e | ⟨g, off, rfl, hg, hcell⟩
            · rw [e] at hgo; simp at hgo
            obtain ⟨pj, cj, c2, hBy⟩ := hcell i t ht
            have hcs := cost_succ ht
            have hcl := cost_le (ts := ts) (i := i + 1) (k := ts.length) (by omega) (Nat.le_refl _)
            have htl : costTo ts i + 24 + t.length ≤ 4000 := by have := HC.out; omega
            have c3 := HM.out.2.2.2.2.2.1.cell c2 (.inr (Nat.zero_le _))
            have HBw := hid_mk (bytes_kept hBy.bytes HM.out.2.2.2.2.2.1)
            have Hi := hid_mk (And.intro hgo (And.intro ht (And.intro htl hcs)))
            have htl4 : t.length ≤ 4000 := by omega
            clear hcell c2 hBy hcs hcl htl hg
            go_wp2_with (at_builtin; refine app_bytes rfl _ _ rfl (t := t) (p := pj) (cp := cj) rfl rfl HBw.out htl4 ?_)
            intro p' cp' X3 hB3 hc3 hg3 o3
            obtain ⟨z, hz⟩ : ∃ z : Int, z = 2 + ((t.length + 7) / 8 : Nat) := ⟨_, rfl⟩
            have hP := HM.out.2.2.2.2.2.2.1
            rw [Hli.out] at hP
            obtain ⟨a, st1, x, q1, q2, q3, q4, q5, q6, q7, q8, q9, q10⟩ := tx_step HM.out.1.2 HM.out.2.1 hP hB3.1 Hi.out.2.2.1 hz
            have hsz := tx_size (m := t.length) (by omega)
            have hlast : st.last < 4611686018427387904 := by have h1 := HM.out.2.2.2.2.2.2.2.1; have h2 := Hli.out; omega
            have HMk := hid_mk (MakeText_ok (HM.out.1.quiet o3) (o3.cell HM.out.2.2.1 (.inr (Nat.zero_le _))) (.inr Hh.out) hB3 hc3 (fun g off e => .inr (Nat.le_trans HM.out.1.1.top (hg3 g off e))) (by omega) (z := z) (a := (a : Int)) (fa := 0) hsz.1 (by rw [hsz.2.1, hz]) (by omega) (by omega) hlast q1 q2 q3 (q4.symm ▸ q5))
            rw [q4] at HMk
            have HQ := hid_mk (And.intro q6 (And.intro q7 (And.intro q8 (And.intro q9 q10))))
            have HO3 := hid_mk o3
            clear q1 q2 q3 q4 q5 q6 q7 q8 q9 q10 hsz hlast hz hP hB3 hc3 hg3 o3 c3
            go_wp2_with fail
            refine HMk.out.mono ?_
            rintro e X4 ⟨rfl, S4, o4⟩
            have o5 := (((Out.refl 0 0 X4).alloc (.cells #[.int .i64 2, .int .i64 (a : Int)] 31)).alloc (.cells #[.int .i64 0, .int .i64 0] 33)).alloc (.cells #[.int .i64 2, .int .i64 (a : Int)] 31)
            have hv5 := ((HM.out.2.2.2.1.kept HO3.out (Nat.zero_le _)).kept o4 (Nat.le_succ_of_le Hh.out)).kept o5 (Nat.zero_le _)
            have HV5 := hid_mk hv5
            have HN3 := hid_mk (three_third (w := X4) (o := .cells #[.int .i64 2, .int .i64 (a : Int)] 31) (o2 := .cells #[.int .i64 0, .int .i64 0] 33) (o3 := .cells #[.int .i64 2, .int .i64 (a : Int)] 31))
            have HS4 := hid_mk (And.intro S4 (And.intro o4 o5))
            have c1' : l.length ≤ 1000 := by have h1 := Hli.out; have h2 := H166.out; omega
            have c2' : Hid (hb + 1 ≤ _) := Nat.le_trans HM.out.2.2.2.2.2.2.2.2 (Nat.le_trans HO3.out.size (Nat.le_trans o4.size o5.size))
            clear S4 o4 o5 hv5 HMk
            go_wp2_with (at_builtin; refine app_val rfl _ _ rfl (hb + 1) _ l rfl HV5.out _ rfl a HN3.out c1' c2'.out ?_)
            intro v' X7 hv' o7
            have HM7 := hid_mk (HM.out.next (by rw [Hli.out]; exact Hi.out.2.1) HO3.out HS4.out.2.1 HS4.out.1 HS4.out.2.2 o7 hv' HQ.out.1 HQ.out.2.2.1 HQ.out.2.2.2.1 (by rw [Hli.out]; exact HQ.out.2.1) HQ.out.2.2.2.2 Hh.out HLo.out)
            clear hv' o7 HV5 HN3 HS4 c1' c2' HQ HO3 HBw htl4
            go_wp2
            go_roundw
            case rel => exact ⟨_, l ++ [a], by have h1 := Hli.out; have h2 := Hi.out.1; simp; omega, by rw [List.length_append, Hli.out]; rfl, HM7.out⟩
            case measure => have h2 := Hi.out.1; simp [intOf]; omega
          · have g4 : (ts.length : Int) ≤ (i : Int) := by omega
            have ei : i = ts.length := by omega
            have Hei := hid_mk ei
            have e4 : ¬ (i : Int) < (ts.length : Int) := by omega
            obtain ⟨po, pc, rfl, hat⟩ := HM.out.2.2.2.1.at
            have HAt := hid_mk hat
            clear hat hgo ei k1
            obtain ⟨W3, hW3⟩ : ∃ V, V = wr := ⟨_, rfl⟩
            subst hW3
            go_wp2_with fail
            go_loopw [11] (fun x wr => ∃ i : Nat, i ≤ l.length ∧ x = .int .i64 i ∧ Out 0 0 W3 wr) (fun x _ => l.length - (intOf x).toNat)
            case atStart => exact ⟨0, Nat.zero_le _, rfl, Out.refl _ _ _⟩
            case round =>
              obtain ⟨i, i1, rfl, hO⟩ := hrel
              have HOr := hid_mk hO
              clear hO
              have ll : (l.length : Int) ≤ 166 := by have h1 := Hli.out; have h2 := Hei.out; have h3 := H166.out; omega
              have i0 : (0 : Int) ≤ (i : Int) := by omega
              by_cases hgo : i < l.length
              · have g5 : (i : Int) < (l.length : Int) := by omega
                obtain ⟨q, hq⟩ : ∃ q, l[i]? = some q := ⟨_, List.getElem?_eq_getElem hgo⟩
                obtain ⟨gl, rfl, hg1, hg2, d1, d2⟩ := HAt.out i q hq
                obtain ⟨t, ht, hTx⟩ := HM.out.2.2.2.2.1 i q hq
                rcases HL1.out with e | ⟨g, off, rfl, hg, hcell⟩
                · rw [e] at ht; simp at ht
                obtain ⟨pj, cj, c2, hBy⟩ := hcell i t ht
                have oA := HM.out.2.2.2.2.2.1.trans HOr.out
                have d1' := HOr.out.cell d1 (.inr (Nat.zero_le _))
                have d2' := HOr.out.cell d2 (.inr (Nat.zero_le _))
                have Hi := hid_mk (And.intro hgo (And.intro ht hTx))
                have Hc := hid_mk (And.intro (oA.cell c2 (.inr (Nat.zero_le _))) (bytes_kept hBy.bytes oA))
                have hti : (i : Int) < (ts.length : Int) := by have h1 := Hli.out; have h2 := Hei.out; omega
                have HS : Hid (SpAt wr lo hi s 160 cap st) := HM.out.1.quiet HOr.out
                have HTx : Hid (Calls Tryz.prog 9 #[.pointer (some ⟨hb, 0, none⟩), .agg #[.int .i64 2, .int .i64 (q : Int)]] wr fun e w' => ∃ g, e = .returned (.tuple #[.slice (some ⟨g, 0, none⟩) t.length t.length, .agg #[.int .i64 0, .int .i64 0]]) ∧ BytesAt w' (some ⟨g, 0, none⟩) t ∧ wr.heap.size ≤ g ∧ Out 0 0 wr w') := by
                  obtain ⟨t1, t2, t3, t4, t5⟩ := hTx
                  have hM := raw_at (n := 160) t1
                  have har := arenaO HS.out.2 q _ hM
                  have hE := op_right HM.out.2.1 t1
                  generalize st.O q = b at *
                  obtain ⟨b1, b2, b3, b4⟩ := b
                  dsimp only at t2 t3 har
                  subst t2
                  have hpk : peekV 160 (rawOf 160 st).W ((q : Int) + 1) = ((t.length : Nat) : Int) := by
                    show peekV 160 st.W ((q : Int) + 1) = _
                    unfold peekV inB
                    rw [if_pos (by simp; omega), show ((q : Int) + 1).toNat = q + 1 from by omega]
                    exact t4
                  have h := Text_in HS.out.1 (arenaO HS.out.2) (HOr.out.cell HM.out.2.2.1 (.inr (Nat.zero_le _))) 2 (q : Int) hM hE HS.out.1.n2 (by omega) (L := t.length) hpk (by omega)
                  rw [show ((q : Int)).toNat = q from by omega, show (rawOf 160 st).W = st.W from rfl, t5] at h
                  exact h
                clear hcell c2 hBy oA hTx ht hq hg1 hg2 d1 d2 hg hgo
                go_wp2_with fail
                refine HTx.out.mono ?_
                rintro e X5 ⟨gO, rfl, hB5, hgO, o5⟩
                have hf5 := heap_alloc_new X5 (.cells #[.int .i64 0, .int .i64 0] 33)
                have o6 := (Out.refl 0 0 X5).alloc (.cells #[.int .i64 0, .int .i64 0] 33)
                have HBo0 := hid_mk (bytes_kept hB5 o6)
                have HBt0 := hid_mk (bytes_kept Hc.out.2 (o5.trans o6))
                have Hc0 := hid_mk ((o5.trans o6).cell Hc.out.1 (.inr (Nat.zero_le _)))
                have HO60 := hid_mk (HOr.out.trans (o5.trans o6))
                have Hf0 := hid_mk hf5
                clear hB5 hgO o5 hf5 o6 d1' d2' HTx Hc
                go_wp2_with fail
                obtain ⟨V6, hV6⟩ : ∃ V, X5.alloc (.cells #[.int .i64 0, .int .i64 0] 33) = V := ⟨_, rfl⟩
                obtain ⟨gf, hgf⟩ : ∃ g, X5.heap.size = g := ⟨_, rfl⟩
                rw [hV6] at HBo0 HBt0 Hc0 HO60 Hf0 ⊢
                rw [hgf] at Hf0
                (try rw [hgf])
                clear hV6 hgf
                have HBo := hid_mk HBo0.out
                have HBt := hid_mk HBt0.out
                have HOe := hid_mk HO60.out
                have f0 := (flt_facts Hf0.out).1
                have c0 := Hc0.out
                clear HBo0 HBt0 Hc0 HO60 Hf0
                refine wp_region_held_drew (S := fun w' => w'.cell? ⟨gf, 0, none⟩ = some (.int .i64 0) ∧ w'.cell? ⟨g, off + i, none⟩ = some (.slice pj t.length cj) ∧ (Go.convert 24 9 (.slice (some ⟨gO, 0, none⟩) t.length t.length)).run Tryz.prog w' = .ok (.string (strOfNums t)) w' ∧ (Go.convert 24 9 (.slice pj t.length cj)).run Tryz.prog w' = .ok (.string (strOfNums t)) w') (by kernel_rfl) ?hS1 (fun hHeld => ?rest1)
                case hS1 => exact ⟨f0, c0, conv_bytes (bytes_kept HBo.out (Out.refl 0 0 _).drew), conv_bytes (bytes_kept HBt.out (Out.refl 0 0 _).drew)⟩
                refine tk 0 ?_
                refine tk 1 ?_
                refine tk 2 ?_
                refine tk 3 ?_
                refine tk 4 ?_
                refine tk 5 ?_
                refine tk 6 ?_
                refine tk 7 ?_
                refine tk 8 ?_
                refine tk 9 ?_
                refine tk 10 ?_
                refine tk 11 ?_
                refine tk 12 ?_
                refine wpAnyH_done (by kernel_rfl) ?_ _
                clear hHeld f0 c0
                go_wp2
                go_roundw
                case rel => exact ⟨i + 1, by have := Hi.out.1; omega, by go_num, HOe.out.drew⟩
                case measure => have := Hi.out.1; simp [intOf]; omega
              · have g5 : (l.length : Int) ≤ (i : Int) := by omega
                go_wp2
                go_ret
                exact ⟨rfl, HO1.out.trans (HM.out.2.2.2.2.2.1.trans HOr.out)⟩
      · have g2 : (4000 : Int) < (C : Int) := by omega
        go_wp2
        go_ret
        exact ⟨rfl, HO1.out⟩
end Go.Proofs.YtcpignkjlnjjmaaGreatDoor
