import Derived.Test.YtcnjlbjpeklgkaaGreatDoorR38
import Derived.Test.YtcnjlbjpeklgkaaGreatDoorR36
namespace Go.Proofs.YtcnjlbjpeklgkaaGreatDoor
open Go.RowKit
set_option linter.unusedVariables false
set_option linter.unusedSimpArgs false

theorem wr_vals (P : PrF) : wrE P = 0 ∨ wrE P = 62 ∨ wrE P = 2 := by
  by_cases h : okP P
  · by_cases hl : (encP P).length ≤ 65536
    · exact .inl (wr_ok h hl).1
    · exact .inr (.inr (wr_long h (by omega)).1)
  · exact .inr (.inl (wr_form h).1)
theorem wr_zero {P : PrF} (h : wrE P = 0) : okP P ∧ (encP P).length ≤ 65536 := by
  by_cases h1 : okP P
  · by_cases hl : (encP P).length ≤ 65536
    · exact ⟨h1, hl⟩
    · rw [(wr_long h1 (by omega)).1] at h; cases h
  · rw [(wr_form h1).1] at h; cases h
/-- what a text says -/
theorem asm_cases (t : List Int) : ((asmF plO wrE t).2.2 = 0 ∧ (asmF plO wrE t).2.1 = 0 ∧ wrE (asmF plO wrE t).1 = 0) ∨ ((asmF plO wrE t).2.2 ≠ 0 ∧ (asmF plO wrE t).1 = (0, [], []) ∧ (((asmF plO wrE t).2.2 = 90 ∧ 0 < (asmF plO wrE t).2.1 ∧ (asmF plO wrE t).2.1 ≤ t.length) ∨ ((asmF plO wrE t).2.2 ≠ 90 ∧ (asmF plO wrE t).2.1 = 0))) := by
  unfold asmF
  split
  · exact .inr ⟨by decide, rfl, .inr ⟨by decide, rfl⟩⟩
  · split
    · rename_i h1 h2
      exact .inr ⟨by show (90 : Int) ≠ 0; decide, rfl, .inl ⟨rfl, h2, bad_le plO t⟩⟩
    · split
      · rename_i h1 h2 h3
        refine .inr ⟨h3, rfl, .inr ⟨?_, rfl⟩⟩
        rcases wr_vals (MkF.zero.run plO 1 (lnsF t)).ends.prog with e | e | e
        · exact absurd e h3
        · show wrE _ ≠ 90
          rw [e]; decide
        · show wrE _ ≠ 90
          rw [e]; decide
      · rename_i h1 h2 h3
        exact .inl ⟨rfl, rfl, Classical.not_not.1 h3⟩
theorem ok_mi {P : PrF} (h : okP P) : ∀ f ∈ P.2.2, MI f.2.2.2 := by
  intro f hf x hx
  have h1 := h.2.2.2.2 f hf
  have h2 := h1.2.2.2.2 x hx
  obtain ⟨a, b, c, d, e⟩ := h2
  have hr := ops_rng a
  refine ⟨by omega, ?_⟩
  unfold opS at a b c d e
  repeat' split at a
  all_goals first | (exfalso; exact a rfl) | skip
  all_goals simp_all
  all_goals omega
theorem tx_byt {w : World} {B : Nat} {ta : Option Addr} {ts : List (List Int)} (h : TxIn w B ta ts) : ∀ b ∈ ts, ∀ x ∈ b, 0 ≤ x ∧ x ≤ 255 := by
  intro b hb x hx
  rcases h with h | ⟨g, off, _, _, h3⟩
  · rw [h] at hb; cases hb
  · obtain ⟨j, hj⟩ := List.getElem?_of_mem hb
    obtain ⟨_, _, _, c⟩ := h3 j b hj
    exact c.1 x hx
theorem TxIn.up {w : World} {B C : Nat} {p : Option Addr} {ts : List (List Int)} (h : TxIn w B p ts) (hc : B ≤ C) : TxIn w C p ts := by
  rcases h with h | ⟨g, off, h1, h2, h3⟩
  · exact .inl h
  · refine .inr ⟨g, off, h1, by omega, fun j t hj => ?_⟩
    obtain ⟨pj, cj, c1, hb, c2⟩ := h3 j t hj
    refine ⟨pj, cj, c1, hb, ?_⟩
    rcases c2 with c2 | ⟨g2, o2, q1, q2, q3⟩
    · exact .inl c2
    · exact .inr ⟨g2, o2, q1, by omega, q3⟩
theorem FnIn.up {w : World} {B C : Nat} {p : Option Addr} {fs : List (Int × Int × Int × List (Int × Int))} (h : FnIn w B p fs) (hc : B ≤ C) : FnIn w C p fs := by
  rcases h with h | ⟨g, off, h1, h2, h3⟩
  · exact .inl h
  · refine .inr ⟨g, off, h1, by omega, fun j t hj => ?_⟩
    obtain ⟨pj, cj, c1, c2, c3, c4, c5⟩ := h3 j t hj
    refine ⟨pj, cj, c1, c2, c3, c4, ?_⟩
    rcases c5 with c5 | ⟨g2, o2, q1, q2, q3⟩
    · exact .inl c5
    · exact .inr ⟨g2, o2, q1, by omega, q3⟩
theorem pg_back {p : PrF} {w : World} {B : Nat} {ta : Option Addr} (hw : wrE p = 0) (ht : TxIn w B ta p.2.1) : asmF plO wrE (prtF plO p) = (p, 0, 0) :=
  asm_back wrE p (wr_zero hw).1 (tx_byt ht) (wr_zero hw).2 hw
theorem ok_big {p : PrF} (h : okP p) : ((p.2.1.length : Int) ≤ 400000 ∧ (p.2.2.length : Int) ≤ 400000 ∧ ∀ f ∈ p.2.2, (f.2.2.2.length : Int) ≤ 400000) := by
  obtain ⟨_, h2, _, h4, h5⟩ := h
  refine ⟨by omega, by omega, fun f hf => ?_⟩
  have := (h5 f hf).2.2.2.1
  omega
set_option maxRecDepth 100000 in
set_option maxHeartbeats 4000000 in
theorem oneform_any {w : World} (h : Gx w) (t : ByteArray) (hsz : (t.size : Int) ≤ 9223372036854775807) : Calls Tryz.prog 7 #[.string t] w fun e w' => e = .returned (.bool true) ∧ Out 0 0 w w' := by
  have HG := hid_mk h
  clear h
  by_cases hbig : 100000 < t.size
  · have hb1 : (100000 : Int) < (t.size : Int) := by omega
    have hb2 : decide ((100000 : Int) < (t.size : Int)) = true := decide_eq_true hb1
    clear hbig
    go_enter Tryz.func7, Tryz.ntmps7
    go_wp2_with (go_at_call 13; refine (alive25 HG.out).mono ?_; rintro e w1 ⟨rfl, o1⟩)
    go_ret
    exact ⟨rfl, o1⟩
  have hb1 : ¬ ((100000 : Int) < (t.size : Int)) := by omega
  have hb2 : decide ((100000 : Int) < (t.size : Int)) = false := decide_eq_false hb1
  have HS := hid_mk hbig
  clear hbig
  obtain ⟨p, k, er, hq⟩ : ∃ p k er, asmF plO wrE (bt t) = (p, k, er) := ⟨_, _, _, rfl⟩
  have hcase := asm_cases (bt t)
  rw [hq] at hcase
  simp only at hcase
  obtain ⟨x, ts, fs⟩ := p
  obtain ⟨nt, hnt⟩ : ∃ nt, ts.length = nt := ⟨_, rfl⟩
  obtain ⟨nf, hnf⟩ : ∃ nf, fs.length = nf := ⟨_, rfl⟩
  have HA := hid_mk (asm_known nt nf hq hnt hnf HG.out)
  rcases hcase with ⟨rfl, rfl, hw⟩ | ⟨h0, hp, hk⟩
  · have HW := hid_mk hw
    have HN := hid_mk (And.intro hnt hnf)
    clear hw hq hnt hnf
    go_enter Tryz.func7, Tryz.ntmps7
    go_wp2_with (go_at_call 19; refine HA.out.mono ?_; rintro e w1 ⟨o1, ta, tc, fa, fc, rfl, h1, h2⟩; have hb := Bl.new w1 #[.int .i64 x, .slice ta nt tc, .slice fa nf fc] 32; have k0 := hb.cell (i := 0) rfl; have k1 := hb.cell (i := 1) rfl; have k2 := hb.cell (i := 2) rfl; have HB := hid_mk hb; have H1 := hid_mk (And.intro h1 h2); have HO1 := hid_mk o1; clear hb h1 h2 o1)
    obtain ⟨b, hbw⟩ : ∃ b, w1.heap.size = b := ⟨_, rfl⟩
    obtain ⟨W1, hW1⟩ : ∃ W1, w1.alloc (.cells #[.int .i64 x, .slice ta nt tc, .slice fa nf fc] 32) = W1 := ⟨_, rfl⟩
    have oW : Out 0 0 w1 W1 := by rw [← hW1]; exact (Out.refl 0 0 w1).alloc _
    have hWs : W1.heap.size = b + 1 := by rw [← hW1, size_alloc, hbw]
    rw [hW1, hbw] at HB k0 k1 k2
    rw [hbw] at H1
    rw [hW1]
    (try rw [hbw])
    have HT1 := hid_mk (H1.out.1.kept (Lo.of_out (B := b) oW) (Nat.le_refl _))
    have HF1 := hid_mk (H1.out.2.kept (Lo.of_out (B := b) oW) (Nat.le_refl _))
    have HOW := hid_mk (HO1.out.trans oW)
    have HWs := hid_mk hWs
    clear hW1 hbw oW hWs H1
    go_at_call 18
    refine (print_any (B := b) (HG.out.out HOW.out).2.2.1 (HG.out.out HOW.out).2.2.2.1 (HG.out.out HOW.out).2.1 (by have := HWs.out; omega) (HG.out.out HOW.out).2.2.2.2 x ts fs ta fa nt tc nf fc HN.out.1 HN.out.2 HT1.out HF1.out (ok_mi (wr_zero HW.out).1)).mono ?_
    rintro e w2 ⟨s, hs, _, he, o2⟩
    have hs2 := hs HW.out
    rw [HW.out] at he
    subst he
    have HA2 := hid_mk (asm_known nt nf (by rw [hs2]; exact pg_back HW.out HT1.out) HN.out.1 HN.out.2 (HG.out.out (HOW.out.trans o2)))
    have HS2 := hid_mk hs2
    have HO2 := hid_mk o2
    clear hs hs2 o2 HA
    go_wp2_with (go_at_call 19; refine HA2.out.mono ?_; rintro e w3 ⟨o3, ta2, tc2, fa2, fc2, rfl, h1, h2⟩; have hb2 := Bl.new w3 #[.int .i64 x, .slice ta2 nt tc2, .slice fa2 nf fc2] 32; have l0 := hb2.cell (i := 0) rfl; have l1 := hb2.cell (i := 1) rfl; have l2 := hb2.cell (i := 2) rfl; have HB2 := hid_mk hb2; have H2 := hid_mk (And.intro h1 h2); have HO3 := hid_mk o3; clear hb2 h1 h2 o3)
    obtain ⟨b2, hbw⟩ : ∃ b2, w3.heap.size = b2 := ⟨_, rfl⟩
    obtain ⟨W3, hW3⟩ : ∃ W3, w3.alloc (.cells #[.int .i64 x, .slice ta2 nt tc2, .slice fa2 nf fc2] 32) = W3 := ⟨_, rfl⟩
    have oW : Out 0 0 w3 W3 := by rw [← hW3]; exact (Out.refl 0 0 w3).alloc _
    have hWs : W3.heap.size = b2 + 1 := by rw [← hW3, size_alloc, hbw]
    rw [hW3, hbw] at HB2 l0 l1 l2
    rw [hbw] at H2
    rw [hW3]
    (try rw [hbw])
    have HT2 := hid_mk (H2.out.1.kept (Lo.of_out (B := b2) oW) (Nat.le_refl _))
    have HF2 := hid_mk (H2.out.2.kept (Lo.of_out (B := b2) oW) (Nat.le_refl _))
    have HOW3 := hid_mk (((HOW.out.trans HO2.out).trans HO3.out).trans oW)
    have HB13 := hid_mk ((HO2.out.trans HO3.out).trans oW)
    have HWs3 := hid_mk (And.intro hWs (show b ≤ b2 by have h1 := HO2.out.size; have h2 := HO3.out.size; have h3 := HWs.out; omega))
    clear hW3 hbw oW hWs H2
    go_at_call 18
    refine (print_any (B := b2) (HG.out.out HOW3.out).2.2.1 (HG.out.out HOW3.out).2.2.2.1 (HG.out.out HOW3.out).2.1 (by have := HWs3.out.1; omega) (HG.out.out HOW3.out).2.2.2.2 x ts fs ta2 fa2 nt tc2 nf fc2 HN.out.1 HN.out.2 HT2.out HF2.out (ok_mi (wr_zero HW.out).1)).mono ?_
    rintro e w4 ⟨s2, hs, _, he, o4⟩
    have hs3 := hs HW.out
    rw [← HS2.out] at hs3
    obtain rfl := bt_inj hs3
    rw [HW.out] at he
    subst he
    have HO4 := hid_mk o4
    clear hs hs3 o4
    have hseq : (s2.toList == s2.toList) = true := by simp
    have HOW4 := hid_mk (HOW3.out.trans HO4.out)
    go_wp2_with (first | (go_at_call 13; refine (alive25 (HG.out.out HOW4.out)).mono ?_; rintro e w5 ⟨rfl, o5⟩; have j0 := (HB.out.kept ((HB13.out.trans HO4.out).trans o5) (.inr (Nat.zero_le _))).cell (i := 0) rfl; have j1 := (HB.out.kept ((HB13.out.trans HO4.out).trans o5) (.inr (Nat.zero_le _))).cell (i := 1) rfl; have j2 := (HB.out.kept ((HB13.out.trans HO4.out).trans o5) (.inr (Nat.zero_le _))).cell (i := 2) rfl; have i0 := (HB2.out.kept (HO4.out.trans o5) (.inr (Nat.zero_le _))).cell (i := 0) rfl; have i1 := (HB2.out.kept (HO4.out.trans o5) (.inr (Nat.zero_le _))).cell (i := 1) rfl; have i2 := (HB2.out.kept (HO4.out.trans o5) (.inr (Nat.zero_le _))).cell (i := 2) rfl; have HO5 := hid_mk o5; clear o5) | (go_at_call 20; refine (same_any (B := b2) x x ts ts fs fs ta ta2 fa fa2 nt nt nf nf tc tc2 fc fc2 HN.out.1 HN.out.1 HN.out.2 HN.out.2 (((HT1.out.kept (Lo.of_out (B := b) ((HB13.out.trans HO4.out).trans HO5.out)) (Nat.le_refl _))).up HWs3.out.2) (HT2.out.kept (Lo.of_out (B := b2) (HO4.out.trans HO5.out)) (Nat.le_refl _)) (((HF1.out.kept (Lo.of_out (B := b) ((HB13.out.trans HO4.out).trans HO5.out)) (Nat.le_refl _))).up HWs3.out.2) (HF2.out.kept (Lo.of_out (B := b2) (HO4.out.trans HO5.out)) (Nat.le_refl _)) (by have := ok_big (wr_zero HW.out).1; rw [← HN.out.1, ← HN.out.2]; exact this)).mono ?_; rintro e w6 ⟨⟨bb, rfl, hbb⟩, o6⟩; obtain rfl := hbb.2 rfl; have HO6 := hid_mk o6; clear o6 hbb))
    go_ret
    exact ⟨rfl, (HOW4.out.trans HO5.out).trans HO6.out⟩
  · have hp1 := congrArg (fun q : PrF => q.1) hp
    have hp2 := congrArg (fun q : PrF => q.2.1) hp
    have hp3 := congrArg (fun q : PrF => q.2.2) hp
    simp only at hp1 hp2 hp3
    subst hp1 hp2 hp3
    obtain rfl : nt = 0 := hnt.symm
    obtain rfl : nf = 0 := hnf.symm
    clear hp hq hnt hnf
    have hz : (0 : Int) ≤ (k : Int) := by omega
    rcases hk with ⟨rfl, hk1, hk2⟩ | ⟨hk1, rfl⟩
    · have hk3 : (0 : Int) < (k : Int) := by omega
      have hk4 : (k : Int) ≤ (t.size : Int) + 1 := by rw [bt_len] at hk2; omega
      have hk5 : decide ((0 : Int) < (k : Int)) = true := decide_eq_true hk3
      have hk6 : decide ((k : Int) ≤ (t.size : Int) + 1) = true := decide_eq_true hk4
      have hts : (t.size : Int) ≤ 100000 := by have := HS.out; omega
      clear hk1 hk2 h0
      go_enter Tryz.func7, Tryz.ntmps7
      go_wp2_with (first | (go_at_call 19; refine HA.out.mono ?_; rintro e w1 ⟨o1, ta, tc, fa, fc, rfl, h1, h2⟩; have hb := Bl.new w1 #[.int .i64 0, .slice ta 0 tc, .slice fa 0 fc] 32; have HB := hid_mk hb; have HO1 := hid_mk (o1.alloc (.cells #[.int .i64 0, .slice ta 0 tc, .slice fa 0 fc] 32)); clear hb h1 h2 o1) | (go_at_call 13; refine (alive25 (HG.out.out HO1.out)).mono ?_; rintro e w5 ⟨rfl, o5⟩; have j0 := (HB.out.kept o5 (.inr (Nat.zero_le _))).cell (i := 0) rfl; have j1 := (HB.out.kept o5 (.inr (Nat.zero_le _))).cell (i := 1) rfl; have j2 := (HB.out.kept o5 (.inr (Nat.zero_le _))).cell (i := 2) rfl; have HO5 := hid_mk o5; clear o5) | (go_at_call 20; refine (same_any (B := 0) 0 0 [] [] [] [] ta none fa none 0 0 0 0 tc 0 fc 0 rfl rfl rfl rfl (.inl rfl) (.inl rfl) (.inl rfl) (.inl rfl) ⟨by decide, by decide, by simp⟩).mono ?_; rintro e w6 ⟨⟨bb, rfl, hbb⟩, o6⟩; obtain rfl := hbb.2 rfl; have HO6 := hid_mk o6; clear o6 hbb))
      go_ret
      exact ⟨rfl, (HO1.out.trans HO5.out).trans HO6.out⟩
    · have he1 : (er == 0) = false := by simpa using h0
      have he2 : (er == 90) = false := by simpa using hk1
      have hts : (t.size : Int) ≤ 100000 := by have := HS.out; omega
      have hk4 : (0 : Int) ≤ (t.size : Int) + 1 := by omega
      have hk6 : decide ((0 : Int) ≤ (t.size : Int) + 1) = true := decide_eq_true hk4
      clear hk1 h0
      go_enter Tryz.func7, Tryz.ntmps7
      go_wp2_with (first | (go_at_call 19; refine HA.out.mono ?_; rintro e w1 ⟨o1, ta, tc, fa, fc, rfl, h1, h2⟩; have hb := Bl.new w1 #[.int .i64 0, .slice ta 0 tc, .slice fa 0 fc] 32; have HB := hid_mk hb; have HO1 := hid_mk (o1.alloc (.cells #[.int .i64 0, .slice ta 0 tc, .slice fa 0 fc] 32)); clear hb h1 h2 o1) | (go_at_call 13; refine (alive25 (HG.out.out HO1.out)).mono ?_; rintro e w5 ⟨rfl, o5⟩; have j0 := (HB.out.kept o5 (.inr (Nat.zero_le _))).cell (i := 0) rfl; have j1 := (HB.out.kept o5 (.inr (Nat.zero_le _))).cell (i := 1) rfl; have j2 := (HB.out.kept o5 (.inr (Nat.zero_le _))).cell (i := 2) rfl; have HO5 := hid_mk o5; clear o5) | (go_at_call 20; refine (same_any (B := 0) 0 0 [] [] [] [] ta none fa none 0 0 0 0 tc 0 fc 0 rfl rfl rfl rfl (.inl rfl) (.inl rfl) (.inl rfl) (.inl rfl) ⟨by decide, by decide, by simp⟩).mono ?_; rintro e w6 ⟨⟨bb, rfl, hbb⟩, o6⟩; obtain rfl := hbb.2 rfl; have HO6 := hid_mk o6; clear o6 hbb))
      go_ret
      exact ⟨rfl, (HO1.out.trans HO5.out).trans HO6.out⟩
end Go.Proofs.YtcnjlbjpeklgkaaGreatDoor
