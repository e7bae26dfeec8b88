import Derived.Test.YtkghabmgofgclaaDoorQbh
import Derived.Test.YtkghabmgofgclaaDoorQbi
namespace Go.Proofs.YtkghabmgofgclaaDoor
open Go.RowKit
set_option linter.unusedVariables false
set_option linter.unusedSimpArgs false

theorem wr_small {x : Int} (h0 : 0 ≤ x) (h1 : x ≤ 4611686018427387904) : wrap64 x = x := by unfold wrap64; omega
theorem take_plq {ps : List (Int × List (List Int) × List (Int × Int × Int × List (Int × Int)))} {i : Nat} {P : (Int × List (List Int) × List (Int × Int × Int × List (Int × Int)))} (h : ps[i]? = some P) (hP : PlQ P.2.1 P.2.2) (ha : ∀ Q ∈ ps.take i, PlQ Q.2.1 Q.2.2) : ∀ Q ∈ ps.take (i + 1), PlQ Q.2.1 Q.2.2 := by
  intro Q hQ
  rw [List.take_add_one, h] at hQ
  rcases List.mem_append.1 hQ with q | q
  · exact ha Q q
  · simp at q; subst q; exact hP
theorem pair_app {As Bs : List An} {A B : An} (hl : As.length = Bs.length) (h : ∀ (j : Nat) A B, As[j]? = some A → Bs[j]? = some B → A.S = B.S ∧ A.Ds = B.Ds) (hS : A.S = B.S) (hD : A.Ds = B.Ds) : ∀ (j : Nat) A' B', (As ++ [A])[j]? = some A' → (Bs ++ [B])[j]? = some B' → A'.S = B'.S ∧ A'.Ds = B'.Ds := by
  intro j A' B' z1 z2
  by_cases hj : j < As.length
  · rw [List.getElem?_append_left hj] at z1
    rw [List.getElem?_append_left (by omega)] at z2
    exact h j A' B' z1 z2
  · have hlt := (List.getElem?_eq_some_iff.1 z1).1
    simp at hlt
    obtain rfl : j = As.length := by omega
    simp at z1
    rw [hl] at z2
    simp at z2
    subst z1 z2
    exact ⟨hS, hD⟩
set_option maxRecDepth 100000 in
set_option maxHeartbeats 4000000 in
theorem checkall_any {w : World} (hT : Ty w) (pa : Option Addr) (ps : List (Int × List (List Int) × List (Int × Int × Int × List (Int × Int)))) (n pc : Nat) (hn : ps.length = n) (hp : PgIn w w.heap.size pa ps) (hk : ∀ P ∈ ps, PgOk P) (hl : n ≤ 140737488351232) :
    Calls Tryd.prog 7 #[.slice pa n pc] w fun e w' => e = .returned (.bool true) ∧ Out 0 0 w w' := by
  have HH : Hid (ps.length = n ∧ (∀ P ∈ ps, PgOk P) ∧ Ty w ∧ n ≤ 140737488351232) := hid_mk ⟨hn, hk, hT, hl⟩
  have HP := hid_mk hp
  clear hn hk hT hl hp
  go_enter Tryd.func7, Tryd.ntmps7
  go_wp2
  go_loopw [3, 4] (fun nv iv wr => ∃ (i : Nat) (M : Int), iv = .int .i64 i ∧ i ≤ n ∧ nv = .int .i64 M ∧ 0 ≤ M ∧ M ≤ 90000020000 ∧ (∀ P ∈ ps.take i, PlQ P.2.1 P.2.2) ∧ Out 0 0 w wr) (fun _ iv _ => n - (intOf iv).toNat)
  case atStart => exact ⟨0, 0, rfl, Nat.zero_le _, rfl, by omega, by omega, by simp, Out.refl _ _ _⟩
  case round =>
    obtain ⟨i, M, rfl, him, rfl, hM0, hM1, hPl, hO⟩ := hrel
    have HW : Hid (0 ≤ M ∧ M ≤ 90000020000 ∧ (∀ P ∈ ps.take i, PlQ P.2.1 P.2.2) ∧ Out 0 0 w wr) := hid_mk ⟨hM0, hM1, hPl, hO⟩
    clear hM0 hM1 hPl hO
    by_cases hgo : i < n
    · obtain ⟨l1, l2⟩ := lt_d hgo
      by_cases h20 : i < 20
      · have l3 : decide ((i : Int) < 20) = true := by simp; omega
        by_cases hM : M ≤ 20000
        · have l4 : decide (M ≤ 20000) = true := by simpa using hM
          obtain ⟨P, hPi⟩ : ∃ P, ps[i]? = some P := ⟨_, List.getElem?_eq_getElem (by have := HH.out.1; omega)⟩
          obtain ⟨hn, hk, hT, hl⟩ := HH.out
          obtain ⟨-, -, hPl, hO⟩ := HW.out
          have hPo := hk P (List.mem_of_getElem? hPi)
          obtain ⟨x, ts, fs⟩ := P
          rcases HP.out.kept (Lo.of_out hO) (Nat.le_refl _) with h0 | ⟨g, off, rfl, hg, hcs⟩
          · rw [h0] at hPi; simp at hPi
          obtain ⟨ta, tc, fa, fc, c0, c1, c2, hts, hfs⟩ := hcs i _ hPi
          obtain ⟨nt, hnt⟩ : ∃ nt, ts.length = nt := ⟨_, rfl⟩
          obtain ⟨nf, hnf⟩ : ∃ nf, fs.length = nf := ⟨_, rfl⟩
          have big : ∀ {k : Nat}, k ≤ 140737488351232 → Lim k := fun h => by unfold Lim; omega
          have HFt := hid_mk (fitsW_any (w := wr) x ts fs ta fa nt nf tc fc hnt hnf hts hfs (big (hnt ▸ hPo.2.1)) (big (hnf ▸ hPo.2.2.2)) (fun t ht => big (hPo.1 t ht)) (fun f hf => big (hPo.2.2.1 f hf).2))
          have lmi : (i : Int) < (n : Int) := by omega
          have HI : Hid (i < n ∧ i < 20 ∧ M ≤ 20000 ∧ ps[i]? = some (x, ts, fs) ∧ ts.length = nt ∧ fs.length = nf ∧ (∀ f ∈ fs, MI f.2.2.2) ∧ g < w.heap.size) := hid_mk ⟨hgo, h20, hM, hPi, hnt, hnf, fun f hf => (hPo.2.2.1 f hf).1, hg⟩
          simp only at c0 c1 c2 hfs
          rw [hnt] at c1
          rw [hnf] at c2
          have HF := hid_mk hfs
          clear hn hk hT hl hPl hO hPo hcs hts hfs hnt hnf big hPi hM h20 hgo him hg
          go_wp2_with fail
          refine HFt.out.mono ?_
          clear HFt
          rintro e w1 ⟨⟨fb, rfl, hfb⟩, o1⟩
          have HO1 := hid_mk (HW.out.2.2.2.trans o1)
          cases fb with
          | false =>
            clear hfb o1 c0 c1 c2
            go_wp2_with (go_at_call 14; refine (alive_any (HH.out.2.2.1.out HO1.out (.inr rfl))).mono ?_; rintro e w2 ⟨rfl, o2⟩; have HO2 := hid_mk (HO1.out.trans o2); clear o2)
            go_ret
            exact ⟨rfl, HO2.out⟩
          | true =>
            obtain ⟨p1, p2, p3⟩ := hfb rfl
            obtain ⟨hgo, h20, hM, hPi, hnt, hnf, hMI, hg⟩ := HI.out
            have HQ : Hid (PlQ ts fs ∧ ∀ f ∈ fs, (f.2.2.2.length : Int) ≤ 300000) := hid_mk ⟨⟨by rw [hnt, hnf]; omega, fun f hf => by have := p2 f hf; omega, fun t ht => by have := p3 t ht; omega, hMI⟩, p2⟩
            have HN3 : Hid ((nf : Int) ≤ 300000) := hid_mk (by omega)
            replace c2 := o1.cell c2 (.inr (Nat.zero_le _))
            have HF1 := hid_mk (HF.out.kept (Lo.of_out o1) (Nat.le_refl _))
            clear hfb p1 p2 p3 hgo h20 hM hPi hnt hnf hMI hg c0 c1 o1 HF
            go_wp2
            go_loopw [3, 5] (fun nv jv wr => ∃ (j : Nat) (M2 : Int), jv = .int .i64 j ∧ j ≤ nf ∧ nv = .int .i64 M2 ∧ 0 ≤ M2 ∧ M2 ≤ 20000 + j * 300000 ∧ wr = w1) (fun _ jv _ => nf - (intOf jv).toNat)
            case atStart => exact ⟨0, M, rfl, Nat.zero_le _, rfl, HW.out.1, by have := HI.out.2.2.1; omega, rfl⟩
            case round =>
              obtain ⟨j, M2, rfl, hjm, rfl, hm0, hm1, rfl⟩ := hrel
              by_cases hgj : j < nf
              · obtain ⟨p1, p2⟩ := lt_d hgj
                obtain ⟨f, hf⟩ : ∃ f, fs[j]? = some f := ⟨_, List.getElem?_eq_getElem (by have := HI.out.2.2.2.2.2.1; omega)⟩
                rcases HF1.out with h0 | ⟨fg, foff, rfl, hfg, hcs⟩
                · rw [h0] at hf; simp at hf
                obtain ⟨pj, cj, -, -, -, d3, -⟩ := hcs j f hf
                obtain ⟨m, hm⟩ : ∃ m, f.2.2.2.length = m := ⟨_, rfl⟩
                have hm3 : (m : Int) ≤ 300000 := by rw [← hm]; exact HQ.out.2 f (List.mem_of_getElem? hf)
                rw [hm] at d3
                have hs : wrap64 (M2 + (m : Int)) = M2 + m := wr_small (by omega) (by have := HN3.out; omega)
                have lmj : (j : Int) < (nf : Int) := by omega
                have HJ : Hid (j < nf ∧ 0 ≤ M2 + (m : Int) ∧ M2 + (m : Int) ≤ 20000 + ((j + 1 : Nat) : Int) * 300000 ∧ nf ≤ 300000) := hid_mk ⟨hgj, by omega, by omega, by have := HN3.out; omega⟩
                clear hcs hf hm hm3 hm0 hm1 hgj hjm hfg
                go_wp2
                exact ⟨⟨j + 1, M2 + m, up_V HJ.out.1 (by have := HJ.out; omega), HJ.out.1, by rw [hs], HJ.out.2.1, HJ.out.2.2.1, by trivial⟩, by rw [up_W HJ.out.1 (by have := HJ.out; omega)]; exact ms_N HJ.out.1⟩
              · obtain rfl : nf = j := by omega
                have p1 : decide ((nf : Int) < (nf : Int)) = false := by simp
                have HJ : Hid (0 ≤ M2 ∧ M2 ≤ 90000020000) := hid_mk ⟨hm0, by have := HN3.out; omega⟩
                clear hm0 hm1 hgj hjm
                go_wp2
                exact ⟨⟨i + 1, M2, up_V (K := 20) HI.out.2.1 (by omega), HI.out.1, rfl, HJ.out.1, HJ.out.2, take_plq HI.out.2.2.2.1 HQ.out.1 HW.out.2.2.1, HO1.out⟩, by rw [up_W (K := 20) HI.out.2.1 (by omega)]; exact ms_N HI.out.1⟩
        · have l4 : decide (M ≤ 20000) = false := by simp; omega
          have l5 : decide (20000 < M) = true := by simp; omega
          clear him hgo h20 hM
          go_wp2_with (go_at_call 14; refine (alive_any (HH.out.2.2.1.out HW.out.2.2.2 (.inr rfl))).mono ?_; rintro e w2 ⟨rfl, o2⟩; have HO2 := hid_mk (HW.out.2.2.2.trans o2); clear o2)
          go_ret
          exact ⟨rfl, HO2.out⟩
      · have l3 : decide ((i : Int) < 20) = false := by simp; omega
        have l6 : decide (20 < (n : Int)) = true := by simp; omega
        by_cases hM : M ≤ 20000
        · have l5 : decide (20000 < M) = false := by simp; omega
          clear him hgo h20 hM
          go_wp2_with (go_at_call 14; refine (alive_any (HH.out.2.2.1.out HW.out.2.2.2 (.inr rfl))).mono ?_; rintro e w2 ⟨rfl, o2⟩; have HO2 := hid_mk (HW.out.2.2.2.trans o2); clear o2)
          go_ret
          exact ⟨rfl, HO2.out⟩
        · have l5 : decide (20000 < M) = true := by simp; omega
          clear him hgo h20 hM
          go_wp2_with (go_at_call 14; refine (alive_any (HH.out.2.2.1.out HW.out.2.2.2 (.inr rfl))).mono ?_; rintro e w2 ⟨rfl, o2⟩; have HO2 := hid_mk (HW.out.2.2.2.trans o2); clear o2)
          go_ret
          exact ⟨rfl, HO2.out⟩
    · obtain rfl : n = i := by omega
      have l1 : decide ((n : Int) < (n : Int)) = false := by simp
      by_cases hM : M ≤ 20000
      · have l5 : decide (20000 < M) = false := by simp; omega
        by_cases h20 : n ≤ 20
        · have l6 : decide (20 < (n : Int)) = false := by simp; omega
          obtain ⟨bk, hbk⟩ : ∃ bk, wr.heap.size = bk := ⟨_, rfl⟩
          obtain ⟨W1, hW1⟩ : ∃ W1, wr.alloc (.cells #[.slice none 0 0, .slice none 0 0] 46) = W1 := ⟨_, rfl⟩
          have oK : Out 0 0 wr W1 := by rw [← hW1]; exact (Out.refl 0 0 wr).alloc _
          have bK : Bl W1 bk #[.slice none 0 0, .slice none 0 0] 46 := by rw [← hW1, ← hbk]; exact Bl.new _ _ _
          have HK1 : Hid (KC W1 (bk + 1) bk none 0 none 0 [] [] ∧ Out 0 0 w W1 ∧ bk + 1 ≤ W1.heap.size ∧ w.heap.size ≤ bk ∧ n ≤ 20 ∧ ∀ P ∈ ps, PlQ P.2.1 P.2.2) := hid_mk ⟨kc_start bK, HW.out.2.2.2.trans oK, bK.lt, by rw [← hbk]; exact HW.out.2.2.2.size, h20, by have := HW.out.2.2.1; rw [List.take_of_length_le (by have := HH.out.1; omega)] at this; exact this⟩
          clear oK bK him hgo hM h20 HW
          go_wp2_with fail
          (try rw [hW1])
          (try rw [hbk])
          clear hW1 hbk
          go_loopw [7] (fun iv wr => ∃ (i : Nat) (ra wa : Option Addr) (rk wk : Nat) (As Bs : List An), iv = .int .i64 i ∧ i ≤ n ∧ As.length = i * 2 ∧ Bs.length = i * 2 ∧ (∀ (j : Nat) A B, As[j]? = some A → Bs[j]? = some B → A.S = B.S ∧ A.Ds = B.Ds) ∧ KC wr (bk + 1) bk ra rk wa wk As Bs ∧ Out 0 0 w wr ∧ bk + 1 ≤ wr.heap.size) (fun iv _ => n - (intOf iv).toNat)
          case atStart => exact ⟨0, none, none, 0, 0, [], [], rfl, Nat.zero_le _, rfl, rfl, fun j A B q => by simp at q, HK1.out.1, HK1.out.2.1, HK1.out.2.2.1⟩
          case round =>
            obtain ⟨i, ra, wa, rk, wk, As, Bs, rfl, him, hA, hB, hAB, hK, hO, hsz⟩ := hrel
            by_cases hgo : i < n
            · obtain ⟨p1, p2⟩ := lt_d hgo
              obtain ⟨hn, hk, hT, hl⟩ := HH.out
              obtain ⟨-, -, -, hwb, hn20, hall⟩ := HK1.out
              obtain ⟨P, hPi⟩ : ∃ P, ps[i]? = some P := ⟨_, List.getElem?_eq_getElem (by omega)⟩
              obtain ⟨P0, hP0⟩ : ∃ P, ps[0]? = some P := ⟨_, List.getElem?_eq_getElem (by omega)⟩
              rcases HP.out.kept (Lo.of_out hO) (Nat.le_refl _) with h0 | ⟨g, off, rfl, hg, hcs⟩
              · rw [h0] at hPi; simp at hPi
              have hPl := hall P (List.mem_of_getElem? hPi)
              have hPl0 := hall P0 (List.mem_of_getElem? hP0)
              obtain ⟨x, ts, fs⟩ := P
              obtain ⟨x0, ts0, fs0⟩ := P0
              obtain ⟨ta, tc, fa, fc, c0, c1, c2, hts, hfs⟩ := hcs i _ hPi
              obtain ⟨ta0, tc0, fa0, fc0, d0, d1, d2, hts0, hfs0⟩ := hcs 0 _ hP0
              obtain ⟨nt, hnt⟩ : ∃ nt, ts.length = nt := ⟨_, rfl⟩
              obtain ⟨nf, hnf⟩ : ∃ nf, fs.length = nf := ⟨_, rfl⟩
              obtain ⟨nt0, hnt0⟩ : ∃ nt, ts0.length = nt := ⟨_, rfl⟩
              obtain ⟨nf0, hnf0⟩ : ∃ nf, fs0.length = nf := ⟨_, rfl⟩
              have lmi : (i : Int) < (n : Int) := by omega
              have lm0 : (0 : Int) < (n : Int) := by omega
              simp only [Nat.zero_mul, Nat.add_zero] at c0 c1 c2 d0 d1 d2
              rw [hnt] at c1
              rw [hnf] at c2
              rw [hnt0] at d1
              rw [hnf0] at d2
              have HT1 := hid_mk (told_any (w := wr) (B := w.heap.size) (hT.out hO (.inr rfl)) hO.size x ts fs ta fa nt tc nf fc hnt hnf hts hfs hPl hsz ⟨by omega, by omega, hwb, hT.lt⟩ hK)
              have HJ : Hid (i < n ∧ n ≤ 20 ∧ As.length = i * 2 ∧ Bs.length = i * 2 ∧ (∀ (j : Nat) A B, As[j]? = some A → Bs[j]? = some B → A.S = B.S ∧ A.Ds = B.Ds) ∧ Out 0 0 w wr ∧ bk + 1 ≤ wr.heap.size ∧ Ty w ∧ w.heap.size ≤ bk) := hid_mk ⟨hgo, hn20, hA, hB, hAB, hO, hsz, hT, hwb⟩
              have HZ : Hid (PlQ ts0 fs0 ∧ ts0.length = nt0 ∧ fs0.length = nf0 ∧ TxIn wr w.heap.size ta0 ts0 ∧ FnIn wr w.heap.size fa0 fs0 ∧ g < w.heap.size) := hid_mk ⟨hPl0, hnt0, hnf0, hts0, hfs0, hg⟩
              clear hn hk hT hl hwb hn20 hall hPi hP0 hPl hPl0 hcs hts hfs hts0 hfs0 hnt hnf hnt0 hnf0 hA hB hAB hK hO hsz hgo him hg
              go_wp2_with fail
              refine HT1.out.mono ?_
              clear HT1 c0 c1 c2
              rintro e w3 ⟨rfl, x3, ra3, rk3, wa3, wk3, A, B, hK3, hS, hD⟩
              obtain ⟨hgo, hn20, hA, hB, hAB, hO, hsz, hT, hwb⟩ := HJ.out
              obtain ⟨q1, q2, q3, q4, q5, hg⟩ := HZ.out
              have oo3 : Lo w.heap.size wr w3 := x3.wide fun k _ hk => by omega
              have o3 : Out 0 0 w w3 := out_fx hO x3 (fun k hk => by omega)
              replace d0 := oo3.cell d0 (by omega)
              replace d1 := oo3.cell d1 (by omega)
              replace d2 := oo3.cell d2 (by omega)
              have hsz3 : bk + 1 ≤ w3.heap.size := Nat.le_trans hsz x3.size
              have HT2 := hid_mk (told_any (w := w3) (B := w.heap.size) (hT.out o3 (.inr rfl)) o3.size x0 ts0 fs0 ta0 fa0 nt0 tc0 nf0 fc0 q2 q3 (q4.kept oo3 (Nat.le_refl _)) (q5.kept oo3 (Nat.le_refl _)) q1 hsz3 ⟨by rw [List.length_append]; simp; omega, by rw [List.length_append]; simp; omega, hwb, hT.lt⟩ hK3)
              have HJ3 : Hid (i < n ∧ n ≤ 20 ∧ (As ++ [A]).length = i * 2 + 1 ∧ (Bs ++ [B]).length = i * 2 + 1 ∧ (∀ (j : Nat) A' B', (As ++ [A])[j]? = some A' → (Bs ++ [B])[j]? = some B' → A'.S = B'.S ∧ A'.Ds = B'.Ds) ∧ Out 0 0 w w3 ∧ bk + 1 ≤ w3.heap.size ∧ w.heap.size ≤ bk) := hid_mk ⟨hgo, hn20, by simp; omega, by simp; omega, pair_app (by omega) hAB hS hD, o3, hsz3, hwb⟩
              clear hgo hn20 hA hB hAB hO hsz hT hwb q1 q2 q3 q4 q5 oo3 o3 hsz3 hK3 hS hD x3 HJ HZ hg
              go_wp2_with fail
              refine HT2.out.mono ?_
              clear HT2 d0 d1 d2
              rintro e w4 ⟨rfl, x4, ra4, rk4, wa4, wk4, A4, B4, hK4, hS, hD⟩
              obtain ⟨hgo, hn20, hA, hB, hAB, hO, hsz, hwb⟩ := HJ3.out
              have HE : Hid (i < n ∧ n ≤ 20 ∧ (As ++ [A] ++ [A4]).length = (i + 1) * 2 ∧ (Bs ++ [B] ++ [B4]).length = (i + 1) * 2 ∧ (∀ (j : Nat) A' B', (As ++ [A] ++ [A4])[j]? = some A' → (Bs ++ [B] ++ [B4])[j]? = some B' → A'.S = B'.S ∧ A'.Ds = B'.Ds) ∧ KC w4 (bk + 1) bk ra4 rk4 wa4 wk4 (As ++ [A] ++ [A4]) (Bs ++ [B] ++ [B4]) ∧ Out 0 0 w w4 ∧ bk + 1 ≤ w4.heap.size) := hid_mk ⟨hgo, hn20, by rw [List.length_append, hA]; simp; omega, by rw [List.length_append, hB]; simp; omega, pair_app (by omega) hAB hS hD, hK4, out_fx hO x4 (fun k hk => by omega), Nat.le_trans hsz x4.size⟩
              clear hgo hn20 hA hB hAB hO hsz hwb hK4 hS hD x4 HJ3
              go_wp2
              exact ⟨⟨i + 1, _, _, _, _, _, _, up_V HE.out.1 (by have := HE.out; omega), HE.out.1, HE.out.2.2.1, HE.out.2.2.2.1, HE.out.2.2.2.2.1, HE.out.2.2.2.2.2.1, HE.out.2.2.2.2.2.2⟩, by rw [up_W HE.out.1 (by have := HE.out; omega)]; exact ms_N HE.out.1⟩
            · obtain rfl : n = i := by omega
              have p1 : decide ((n : Int) < (n : Int)) = false := by simp
              have HAl := hid_mk (alive_any (w := wr) (HH.out.2.2.1.out hO (.inr rfl)))
              have HJ : Hid (n ≤ 20 ∧ As.length = n * 2 ∧ Bs.length = n * 2 ∧ (∀ (j : Nat) A B, As[j]? = some A → Bs[j]? = some B → A.S = B.S ∧ A.Ds = B.Ds) ∧ KC wr (bk + 1) bk ra rk wa wk As Bs ∧ Out 0 0 w wr ∧ bk + 1 ≤ wr.heap.size ∧ w.heap.size ≤ bk) := hid_mk ⟨HK1.out.2.2.2.2.1, hA, hB, hAB, hK, hO, hsz, HK1.out.2.2.2.1⟩
              clear hA hB hAB hK hO hsz hgo him
              go_wp2_with fail
              refine HAl.out.mono ?_
              clear HAl
              rintro e w3 ⟨rfl, o3⟩
              obtain ⟨hn20, hA, hB, hAB, hK, hO, hsz, hwb⟩ := HJ.out
              have HAp := hid_mk (apart19_any (w := w3) (Nat.le_trans hsz o3.size) (by omega) (by omega) (hK.quiet o3) hAB)
              have HX3 := hid_mk (And.intro (hO.trans o3) hwb)
              clear hn20 hA hB hAB hK hO hsz hwb o3
              go_wp2_with (go_at_call 16; refine HAp.out.mono ?_; rintro e w4 ⟨rfl, x4⟩; have HX4 := hid_mk x4; clear x4)
              go_ret
              exact ⟨rfl, out_fx HX3.out.1 HX4.out (fun k hk => by have := HX3.out.2; omega)⟩
        · have l6 : decide (20 < (n : Int)) = true := by simp; omega
          clear him hgo h20 hM
          go_wp2_with (go_at_call 14; refine (alive_any (HH.out.2.2.1.out HW.out.2.2.2 (.inr rfl))).mono ?_; rintro e w2 ⟨rfl, o2⟩; have HO2 := hid_mk (HW.out.2.2.2.trans o2); clear o2)
          go_ret
          exact ⟨rfl, HO2.out⟩
      · have l5 : decide (20000 < M) = true := by simp; omega
        clear him hgo hM
        go_wp2_with (go_at_call 14; refine (alive_any (HH.out.2.2.1.out HW.out.2.2.2 (.inr rfl))).mono ?_; rintro e w2 ⟨rfl, o2⟩; have HO2 := hid_mk (HW.out.2.2.2.trans o2); clear o2)
        go_ret
        exact ⟨rfl, HO2.out⟩
end Go.Proofs.YtkghabmgofgclaaDoor
