/- the law CodeNumbers: its walk -/
import Derived.Test.YthijkfcobkdihaaDoorUva
namespace Go.Proofs.YthijkfcobkdihaaDoor
open Go.RowKit
set_option linter.unusedVariables false
set_option linter.unusedSimpArgs false

/-- what the law writes lies there -/
theorem n_made (w : World) (x bits y : Int) : FnIn ((w.alloc (.cells #[.int .i64 1, .int .i64 x, .int .i64 5, .int .i64 bits, .int .i64 14, .int .i64 y] 28)).alloc (.cells #[.int .i64 0, .int .i64 0, .int .i64 0, .slice (some ⟨w.heap.size, 0, none⟩) 3 3] 31)) (w.heap.size + 1 + 1) (some ⟨w.heap.size + 1, 0, none⟩) (nF x bits y) := by
  have q2 := (Bl.new w #[.int .i64 1, .int .i64 x, .int .i64 5, .int .i64 bits, .int .i64 14, .int .i64 y] 28).alloc (.cells #[.int .i64 0, .int .i64 0, .int .i64 0, .slice (some ⟨w.heap.size, 0, none⟩) 3 3] 31)
  have q := Bl.new (w.alloc (.cells #[.int .i64 1, .int .i64 x, .int .i64 5, .int .i64 bits, .int .i64 14, .int .i64 y] 28)) #[.int .i64 0, .int .i64 0, .int .i64 0, .slice (some ⟨w.heap.size, 0, none⟩) 3 3] 31
  simp only [size_alloc] at q
  refine .inr ⟨w.heap.size + 1, 0, rfl, by omega, fun j f hj => ?_⟩
  match j, hj with
  | 0, hj =>
    cases hj
    refine ⟨some ⟨w.heap.size, 0, none⟩, 3, q.cell (i := 0) rfl, q.cell (i := 1) rfl, q.cell (i := 2) rfl, q.cell (i := 3) rfl, .inr ⟨w.heap.size, 0, rfl, by omega, fun k x hk => ?_⟩⟩
    match k, hk with
    | 0, hk => cases hk; exact ⟨q2.cell (i := 0) rfl, q2.cell (i := 1) rfl⟩
    | 1, hk => cases hk; exact ⟨q2.cell (i := 2) rfl, q2.cell (i := 3) rfl⟩
    | 2, hk => cases hk; exact ⟨q2.cell (i := 4) rfl, q2.cell (i := 5) rfl⟩
    | k + 3, hk => simp at hk
  | j + 1, hj => simp [nF] at hj
set_option maxRecDepth 100000 in
set_option maxHeartbeats 4000000 in
theorem numbers_any {w : World} (hT : Ty w) (n bits a : Int) (hn : -9223372036854775808 ≤ n ∧ n ≤ 9223372036854775807) (hb : -9223372036854775808 ≤ bits ∧ bits ≤ 9223372036854775807) (ha : -9223372036854775808 ≤ a ∧ a ≤ 9223372036854775807) :
    Calls Tryd.prog 3 #[.int .i64 n, .int .i64 bits, .int .i64 a] w fun e w' => e = .returned (.bool true) ∧ Out 0 0 w w' := by
  have HTy := hid_mk hT
  have HB := hid_mk hb
  obtain ⟨u, hu⟩ : ∃ u, wiV n 1152921504606846976 = u := ⟨_, rfl⟩
  have hu2 : u < 1152921504606846976 := by rw [← hu]; exact wi_lt (by decide)
  have HW1 : Hid (∀ W : World, Calls Tryd.prog 9 #[.int .i64 n, .int .i64 1152921504606846976] W fun e w' => e = .returned (.int .i64 (u : Int)) ∧ w' = W) := hid_mk fun W => by rw [← hu]; exact within_any n 1152921504606846976 (by decide) hn
  obtain ⟨y, hy⟩ : ∃ y, wiV a 2097152 = y := ⟨_, rfl⟩
  have hy2 : y < 2097152 := by rw [← hy]; exact wi_lt (by decide)
  have HW2 : Hid (∀ W : World, Calls Tryd.prog 9 #[.int .i64 a, .int .i64 2097152] W fun e w' => e = .returned (.int .i64 (y : Int)) ∧ w' = W) := hid_mk fun W => by rw [← hy]; exact within_any a 2097152 (by decide) ha
  have HY := hid_mk hy2
  clear hu hy hn ha hb hT hy2
  go_enter Tryd.func3, Tryd.ntmps3
  by_cases hneg : n < 0
  · go_wp2_with fail
    refine calls_same (HW1.out _) ?_
    go_wp2_with fail
    refine calls_same (HW2.out _) ?_
    go_wp2_with fail
    have hx0 : -1152921504606846976 ≤ -(u : Int) - 1 ∧ -(u : Int) - 1 < 0 := by omega
    obtain ⟨x, hx⟩ : ∃ x : Int, -(u : Int) - 1 = x := ⟨_, rfl⟩
    rw [hx] at hx0 ⊢
    clear hx hu2 HW1 HW2 hneg
    have hx2 : -1152921504606846976 ≤ x ∧ x ≤ 1152921504606846975 := by omega
    have HOK := hid_mk (n_ok (y := (y : Int)) hx2 HB.out (by have := HY.out; omega))
    have HMI := hid_mk (n_mi (y := (y : Int)) hx2 HB.out (by have := HY.out; omega))
    have HN : Hid (zig x < 2305843009213693952) := hid_mk (zig_lt hx2)
    have HZ : Hid (zag (zig x) = x) := hid_mk (zag_zig x)
    obtain ⟨E, hE⟩ : ∃ E, encP (0, [], nF x bits y) = E := ⟨_, rfl⟩
    have hE2 := n_enc x bits y
    rw [hE, Int.toNat_natCast] at hE2
    have hlz : (numB (zig x)).length ≤ 9 := numB_len (k := 8) (by have := HN.out; omega)
    have hly : (numB y).length ≤ 3 := numB_len (k := 2) (by have := HY.out; omega)
    have hl8 : (le8 bits).length = 8 := by unfold le8; simp
    have hlen : E.length = 22 + (numB (zig x)).length + (numB y).length := by rw [hE2]; simp only [List.length_append, List.length_cons, List.length_nil, hl8]; omega
    have hnz : 1 ≤ (numB (zig x)).length := List.length_pos_iff.2 (numB_ne _)
    have hny : 1 ≤ (numB y).length := List.length_pos_iff.2 (numB_ne _)
    have hw2 := wr_ok HOK.out (by rw [hE]; omega)
    rw [hE] at hw2
    have HBt : Hid (Byt E) := hid_mk (by rw [← hE]; exact enc_byt HOK.out (by intro t ht; cases ht))
    have HWr : Hid (∀ (W : World) (g : Nat), Ty W → FnIn W W.heap.size (some ⟨g, 0, none⟩) (nF x bits y) → Calls Tryd.prog 10 #[.agg #[.int .i64 0, .slice none 0 0, .slice (some ⟨g, 0, none⟩) 1 1]] W fun e w' => ∃ ra K cap, e = .returned (.tuple #[.slice ra K cap, .int .i64 0]) ∧ Out 0 0 W w' ∧ ByIn w' w'.heap.size ra E ∧ E.length = K ∧ K ≤ cap) := hid_mk fun W g q1 q2 => by
      have h := write_at q1 (Nat.le_refl _) 0 [] (nF x bits y) none (some ⟨g, 0, none⟩) 0 0 1 1 rfl rfl (.inl rfl) q2 HMI.out (by rw [hw2.2]; exact HBt.out)
      rw [hw2.1, hw2.2] at h
      exact h
    obtain ⟨tail, htl⟩ : ∃ tail, 5 :: (le8 bits ++ (14 :: numB y)) = tail := ⟨_, rfl⟩
    rw [htl] at hE2
    have HS : Hid (E.drop 12 = numB (zig x) ++ tail) := hid_mk (by rw [hE2]; rfl)
    have HE10 : Hid (E[10]? = some 3 ∧ E[11]? = some 1) := hid_mk (by rw [hE2]; exact ⟨rfl, rfl⟩)
    have HTl := hid_mk htl
    have HLn := hid_mk (And.intro hlen (And.intro hlz (And.intro hly (And.intro hnz hny))))
    clear hE hE2 hlz hly hlen hnz hny hw2 htl hl8 hx2
    refine (HWr.out _ _ (HTy.out.out (((Out.refl 0 0 w).alloc _).alloc _) (.inr rfl)) (by have h := n_made w x bits y; simpa only [size_alloc] using h)).mono ?_
    rintro e w2 ⟨ra, K, cap, rfl, o2, hb2, hK, hcap⟩
    have HO2 := hid_mk ((((Out.refl 0 0 w).alloc _).alloc _).trans o2)
    clear o2 HWr
    have hK1 : (22 : Int) ≤ (K : Int) ∧ (K : Int) ≤ 100 := by have := HLn.out; omega
    obtain ⟨hK3, hK4⟩ := hK1
    rcases hb2.2 with h0 | ⟨g2, off2, rfl, hg2, hcc2⟩
    · exfalso; rw [h0] at hK; simp at hK; omega
    have HC := hid_mk hcc2
    have HK := hid_mk hK
    clear hb2 hcc2 hK hg2
    go_wp2_with (go_at_call 11; refine (alive_any (HTy.out.out HO2.out (.inr rfl))).mono ?_; rintro e w3 ⟨rfl, o3⟩; have HO3 := hid_mk (HO2.out.trans o3); have HC3 : Hid (∀ (j : Nat) v, E[j]? = some v → w3.cell? ⟨g2, off2 + j, none⟩ = some (.int .u8 v)) := hid_mk (fun j v hj => cell0 (HC.out j v hj) o3); have d10 := HC3.out 10 _ HE10.out.1; have d11 := HC3.out 11 _ HE10.out.2; clear o3)
    clear d10 d11
    obtain ⟨N, hN⟩ : ∃ N, zig x = N := ⟨_, rfl⟩
    rw [hN] at HN HS HZ HLn
    clear hN
    go_loopw [11, 12, 13] (fun q1 q2 q3 wr => ∃ j R U Z : Nat, q1 = .int .i64 ((12 + j : Nat) : Int) ∧ q2 = .int .i64 (Z : Int) ∧ q3 = .int .i64 (U : Int) ∧ LS N E tail j R U Z ∧ wr = w3) (fun q1 _ _ _ => 30 - (intOf q1).toNat)
    case atStart => exact ⟨0, N, 1, 0, rfl, rfl, rfl, LS.start HS.out, rfl⟩
    case round =>
      obtain ⟨j, R, U, Z, rfl, rfl, rfl, hls, rfl⟩ := hrel
      have HL := hid_mk hls
      obtain ⟨k1, k2, k3, k4⟩ := hls.small HN.out
      obtain ⟨A, hA⟩ : ∃ A, 12 + j = A := ⟨_, rfl⟩
      rw [hA]
      by_cases hR : 128 ≤ R
      · have dA := HC3.out _ _ (hls.at_big hR)
        rw [hA] at dA
        have hr : R % 128 < 128 := Nat.mod_lt _ (by decide)
        have HSt := hid_mk (hls.step hR)
        have hU : R % 128 * U ≤ R * U := Nat.mul_le_mul_right _ (Nat.mod_le _ _)
        obtain ⟨r, hrr⟩ : ∃ r, R % 128 = r := ⟨_, rfl⟩
        rw [hrr] at dA hr HSt hU
        have hlr : 2 ≤ (numB R).length := by rw [numB_ge hR, List.length_cons]; have := List.length_pos_iff.2 (numB_ne (R / 128)); omega
        have hlE := hls.len
        have htl : tail.length = 10 + (numB y).length := by rw [← HTl.out]; simp [le8]; omega
        have hA1 : (A : Int) < (K : Int) := by have := HLn.out; have := HK.out; omega
        have hA2 : (A : Int) < (K : Int) - 11 := by have := HLn.out; have := HK.out; omega
        have hA3 : (A : Int) < 21 := by omega
        have hU' : 0 ≤ (r : Int) * (U : Int) ∧ (r : Int) * (U : Int) ≤ 2305843009213693952 := by
          have : ((r * U : Nat) : Int) = (r : Int) * (U : Int) := Int.natCast_mul _ _
          omega
        have k5 : U ≤ 18014398509481984 := by have : 128 * U ≤ R * U := Nat.mul_le_mul_right _ hR; omega
        have HF := hid_mk (And.intro hU' (And.intro hr (And.intro k1 (And.intro k2 (And.intro k5 k4)))))
        have HA := hid_mk hA
        clear hls hlr hlE htl hU hr k1 k2 k3 k4 k5 hrr hR hA hU'
        go_wp2
        go_roundw
        case rel => exact ⟨j + 1, R / 128, U * 128, Z + r * U, by have := HA.out; congr 1; omega, by rw [z_step HF.out.2.1 HF.out.1.2 (by have := HF.out; omega)], by rw [u_step HF.out.2.2.2.2.1], HSt.out, trivial⟩
        case measure => simp [intOf]; omega
      · have hR' : R < 128 := by omega
        obtain ⟨dA0, dB0⟩ := hls.at_end hR'
        have dA := HC3.out _ _ dA0
        rw [hA] at dA dB0
        have hlR : (numB R).length = 1 := by rw [numB_lt hR']; rfl
        have hlE := hls.len
        have htl : tail.length = 10 + (numB y).length := by rw [← HTl.out]; simp [le8]; omega
        have HLy : Hid (K = A + 11 + (numB y).length ∧ 1 ≤ (numB y).length ∧ (numB y).length ≤ 3 ∧ 12 ≤ A ∧ A ≤ 20) := hid_mk (by have := HLn.out; have := HK.out; omega)
        have dB1 := HC3.out (A + 1) 5 (by have h := dB0 0; rw [← HTl.out] at h; exact h)
        have HBy : Hid (∀ i v, tail[i]? = some v → wr.cell? ⟨g2, off2 + (A + 1 + i), none⟩ = some (.int .u8 v)) := hid_mk fun i v h => HC3.out (A + 1 + i) v ((dB0 i).trans h)
        have hA1 : (A : Int) < (K : Int) := by have := HLy.out; omega
        have hA2 : (A : Int) + 12 ≤ (K : Int) := by have := HLy.out; omega
        have hA3 : (12 : Int) ≤ (A : Int) ∧ (A : Int) ≤ 20 := by have := HLy.out; omega
        obtain ⟨hA4, hA5⟩ := hA3
        have hsum := z_last hls.2.1 (by have := HN.out; omega)
        have hR0 : (R : Int) < 128 := by omega
        have hR1 : R = 0 → A = 12 := by intro h; have := hls.2.2.2.1; omega
        have hend : R = 0 → U = 1 ∧ Z = 0 ∧ N = 0 := by
          intro h
          obtain ⟨p1, p2, p3, p4, _⟩ := hls
          have hj0 : j = 0 := by omega
          rw [hj0] at p1
          subst h
          have : 0 * U = 0 := Nat.zero_mul _
          have : (128 : Nat) ^ 0 = 1 := rfl
          omega
        have HA := hid_mk hA
        clear hls dA0 dB0 hlR hlE htl k1 k2 k3 k4 hR hA
        have hpar := HZ.out
        have hN2 : (N : Int) % 2 = 1 ∧ wrap64 (wrap64 (-wrap64 ((N : Int) / 2)) - 1) = x := par_odd hpar hx0.2 HN.out
        obtain ⟨hN3, hN4⟩ := hN2
        clear hpar
        by_cases hz : R = 0
        · have hA0 : A = 12 := hR1 hz
          obtain ⟨hU1, hZ1, hN1⟩ := hend hz
          omega
        · have hz1 : ((R : Int) == 0) = false := by simp; omega
          clear hR1 hz hend
          go_wp2
          obtain ⟨V, hV⟩ : ∃ V, bits % 18446744073709551616 = V := ⟨_, rfl⟩
          have HVb : Hid (0 ≤ V ∧ V < 18446744073709551616) := hid_mk (by omega)
          have HBk : Hid (∀ k : Nat, k < 8 → wr.cell? ⟨g2, off2 + (A + 2 + k), none⟩ = some (.int .u8 (V / 256 ^ k % 256))) := hid_mk fun k hk => by
            have h := HBy.out (1 + k) (V / 256 ^ k % 256) (by rw [← HTl.out, Nat.add_comm 1 k, ← hV]; show (le8 bits ++ (14 :: numB y))[k]? = _; rw [List.getElem?_append_left (by rw [le8_eq]; exact hk)]; exact le8_at bits hk)
            rwa [show A + 1 + (1 + k) = A + 2 + k by omega] at h
          have HV := hid_mk hV
          clear hV
          go_loopw [14, 15] (fun q1 q2 ws => ∃ i : Nat, i ≤ 8 ∧ q1 = .int .u64 (V / 256 ^ (8 - i)) ∧ q2 = .int .i64 (7 - (i : Int)) ∧ ws = wr) (fun _ q2 _ => (intOf q2 + 1).toNat)
          case atStart => exact ⟨0, by omega, by congr 1; have := HVb.out; omega, rfl, rfl⟩
          case round =>
            obtain ⟨i, hi, rfl, rfl, hws⟩ := hrel
            subst hws
            by_cases hi8 : i < 8
            · obtain ⟨k, hk⟩ : ∃ k : Nat, 7 - i = k := ⟨_, rfl⟩
              have hki : (7 : Int) - (i : Int) = (k : Int) := by omega
              have hk8 : k < 8 := by omega
              have d1 := HBk.out k hk8
              obtain ⟨q, hq⟩ : ∃ q, V / 256 ^ k % 256 = q := ⟨_, rfl⟩
              obtain ⟨X, hX⟩ : ∃ X, V / 256 ^ (8 - i) = X := ⟨_, rfl⟩
              have HSt : Hid (X * 256 + q = V / 256 ^ k ∧ 0 ≤ X * 256 + q ∧ X * 256 + q < 18446744073709551616 ∧ 0 ≤ q ∧ q < 256 ∧ 0 ≤ X) := hid_mk (by rw [← hq, ← hX, show 8 - i = k + 1 by omega]; exact le8_step HVb.out.1 HVb.out.2 k)
              rw [hq] at d1
              rw [hki, hX]
              have hkI : (0 : Int) ≤ (k : Int) := by omega
              have hkJ : (k : Int) ≤ 7 := by omega
              have hAk : (A : Int) + 2 + (k : Int) < (K : Int) := by omega
              have HK9 := hid_mk (And.intro hk hi8)
              clear hq hX hki hi8 hk
              go_wp2
              go_roundw
              case rel => exact ⟨i + 1, by have := HK9.out; omega, by rw [u_round HSt.out.2, HSt.out.1, show 8 - (i + 1) = k by have := HK9.out; omega], by have := HK9.out; congr 1; omega, trivial⟩
              case measure => simp [intOf]
            · obtain rfl : i = 8 := by omega
              have hv0 : V / 256 ^ (8 - 8) = V := by simp
              have hv1 : (7 : Int) - ((8 : Nat) : Int) = -1 := rfl
              rw [hv0, hv1]
              have hvb := bits_back HV.out HB.out
              have d14 := HBy.out 9 14 (by rw [← HTl.out]; show (le8 bits ++ (14 :: numB y))[8]? = _; rw [le8_eq]; rfl)
              rw [show A + 1 + 9 = A + 10 from rfl] at d14
              have hA10 : (A : Int) + 10 < (K : Int) := by omega
              have hyc : ∀ (i : Nat) v, (numB y)[i]? = some v → wr.cell? ⟨g2, off2 + (A + 11 + i), none⟩ = some (.int .u8 v) := fun i v h => by
                have g := HBy.out (10 + i) v (by rw [← HTl.out, le8_eq, Nat.add_comm 10 i]; exact h)
                rwa [show A + 1 + (10 + i) = A + 11 + i by omega] at g
              clear hv0 hv1 hi8 hi
              by_cases hy1 : y < 128
              · have hny := numB_lt hy1
                have e0 := hyc 0 (y : Int) (by rw [hny]; rfl)
                have hKK : K = A + 12 := by have := HLy.out; rw [hny] at this; simp at this; omega
                have hyI : (y : Int) < 128 := by omega
                subst hKK
                clear hny hyc hy1
                go_wp2
                go_ret
                exact ⟨rfl, HO3.out⟩
              · have hy128 : 128 ≤ y := by omega
                have hge := numB_ge hy128
                obtain ⟨r, hr⟩ : ∃ r, y % 128 = r := ⟨_, rfl⟩
                obtain ⟨d, hd⟩ : ∃ d, y / 128 = d := ⟨_, rfl⟩
                rw [hr, hd] at hge
                have hrI : (y : Int) % 128 = (r : Int) := by omega
                have hdI : (y : Int) / 128 = (d : Int) := by omega
                have hrl : (r : Int) < 128 := by omega
                have hyI : (128 : Int) ≤ (y : Int) := by omega
                have e0 := hyc 0 (128 + (r : Int)) (by rw [hge]; simp)
                by_cases hy2 : y < 16384
                · have hd1 : d < 128 := by omega
                  have hny := numB_lt hd1
                  rw [hny] at hge
                  have e1 := hyc 1 (d : Int) (by rw [hge]; rfl)
                  have hKK : K = A + 13 := by have := HLy.out; rw [hge] at this; simp at this; omega
                  have e1b : wr.cell? ⟨g2, off2 + (A + 11) + 1, none⟩ = some (.int .u8 (d : Int)) := e1
                  have hyJ : (y : Int) < 16384 := by omega
                  have hdl : (d : Int) < 128 := by omega
                  subst hKK
                  clear hny hyc hy1 hge hy128 hy2 hr hd hd1
                  go_wp2
                  go_ret
                  exact ⟨rfl, HO3.out⟩
                · have hd1 : 128 ≤ d := by omega
                  have hny := numB_ge hd1
                  obtain ⟨r2, hr2⟩ : ∃ r, d % 128 = r := ⟨_, rfl⟩
                  obtain ⟨d2, hd2⟩ : ∃ k, d / 128 = k := ⟨_, rfl⟩
                  have hd3 : d2 < 128 := by have := HY.out; omega
                  rw [hr2, hd2, numB_lt hd3] at hny
                  rw [hny] at hge
                  have hrJ : (d : Int) % 128 = (r2 : Int) := by omega
                  have hdJ : (d : Int) / 128 = (d2 : Int) := by omega
                  have hrm : (r2 : Int) < 128 := by omega
                  have hdm : (d2 : Int) < 128 := by omega
                  have e1 := hyc 1 (128 + (r2 : Int)) (by rw [hge]; simp)
                  have e2 := hyc 2 (d2 : Int) (by rw [hge]; rfl)
                  have e1b : wr.cell? ⟨g2, off2 + (A + 11) + 1, none⟩ = some (.int .u8 (128 + (r2 : Int))) := e1
                  have e2b : wr.cell? ⟨g2, off2 + (A + 11) + 2, none⟩ = some (.int .u8 (d2 : Int)) := e2
                  have hKK : K = A + 14 := by have := HLy.out; rw [hge] at this; simp at this; omega
                  have hyJ : decide ((y : Int) < 16384) = false := by simp; omega
                  have hyL : decide (y < 16384) = false := by simp; omega
                  have hdK : (d : Int) < 16384 := by omega
                  subst hKK
                  clear hny hyc hy1 hge hy128 hy2 hr hd hd1 hr2 hd2 hd3
                  go_wp2
                  go_ret
                  exact ⟨rfl, HO3.out⟩
  · go_wp2_with fail
    refine calls_same (HW1.out _) ?_
    go_wp2_with fail
    refine calls_same (HW2.out _) ?_
    go_wp2_with fail
    have hx0 : 0 ≤ (u : Int) ∧ (u : Int) ≤ 1152921504606846975 := by omega
    obtain ⟨x, hx⟩ : ∃ x : Int, (u : Int) = x := ⟨_, rfl⟩
    rw [hx] at hx0 ⊢
    clear hx hu2 HW1 HW2 hneg
    have hx2 : -1152921504606846976 ≤ x ∧ x ≤ 1152921504606846975 := by omega
    have HOK := hid_mk (n_ok (y := (y : Int)) hx2 HB.out (by have := HY.out; omega))
    have HMI := hid_mk (n_mi (y := (y : Int)) hx2 HB.out (by have := HY.out; omega))
    have HN : Hid (zig x < 2305843009213693952) := hid_mk (zig_lt hx2)
    have HZ : Hid (zag (zig x) = x) := hid_mk (zag_zig x)
    obtain ⟨E, hE⟩ : ∃ E, encP (0, [], nF x bits y) = E := ⟨_, rfl⟩
    have hE2 := n_enc x bits y
    rw [hE, Int.toNat_natCast] at hE2
    have hlz : (numB (zig x)).length ≤ 9 := numB_len (k := 8) (by have := HN.out; omega)
    have hly : (numB y).length ≤ 3 := numB_len (k := 2) (by have := HY.out; omega)
    have hl8 : (le8 bits).length = 8 := by unfold le8; simp
    have hlen : E.length = 22 + (numB (zig x)).length + (numB y).length := by rw [hE2]; simp only [List.length_append, List.length_cons, List.length_nil, hl8]; omega
    have hnz : 1 ≤ (numB (zig x)).length := List.length_pos_iff.2 (numB_ne _)
    have hny : 1 ≤ (numB y).length := List.length_pos_iff.2 (numB_ne _)
    have hw2 := wr_ok HOK.out (by rw [hE]; omega)
    rw [hE] at hw2
    have HBt : Hid (Byt E) := hid_mk (by rw [← hE]; exact enc_byt HOK.out (by intro t ht; cases ht))
    have HWr : Hid (∀ (W : World) (g : Nat), Ty W → FnIn W W.heap.size (some ⟨g, 0, none⟩) (nF x bits y) → Calls Tryd.prog 10 #[.agg #[.int .i64 0, .slice none 0 0, .slice (some ⟨g, 0, none⟩) 1 1]] W fun e w' => ∃ ra K cap, e = .returned (.tuple #[.slice ra K cap, .int .i64 0]) ∧ Out 0 0 W w' ∧ ByIn w' w'.heap.size ra E ∧ E.length = K ∧ K ≤ cap) := hid_mk fun W g q1 q2 => by
      have h := write_at q1 (Nat.le_refl _) 0 [] (nF x bits y) none (some ⟨g, 0, none⟩) 0 0 1 1 rfl rfl (.inl rfl) q2 HMI.out (by rw [hw2.2]; exact HBt.out)
      rw [hw2.1, hw2.2] at h
      exact h
    obtain ⟨tail, htl⟩ : ∃ tail, 5 :: (le8 bits ++ (14 :: numB y)) = tail := ⟨_, rfl⟩
    rw [htl] at hE2
    have HS : Hid (E.drop 12 = numB (zig x) ++ tail) := hid_mk (by rw [hE2]; rfl)
    have HE10 : Hid (E[10]? = some 3 ∧ E[11]? = some 1) := hid_mk (by rw [hE2]; exact ⟨rfl, rfl⟩)
    have HTl := hid_mk htl
    have HLn := hid_mk (And.intro hlen (And.intro hlz (And.intro hly (And.intro hnz hny))))
    clear hE hE2 hlz hly hlen hnz hny hw2 htl hl8 hx2
    refine (HWr.out _ _ (HTy.out.out (((Out.refl 0 0 w).alloc _).alloc _) (.inr rfl)) (by have h := n_made w x bits y; simpa only [size_alloc] using h)).mono ?_
    rintro e w2 ⟨ra, K, cap, rfl, o2, hb2, hK, hcap⟩
    have HO2 := hid_mk ((((Out.refl 0 0 w).alloc _).alloc _).trans o2)
    clear o2 HWr
    have hK1 : (22 : Int) ≤ (K : Int) ∧ (K : Int) ≤ 100 := by have := HLn.out; omega
    obtain ⟨hK3, hK4⟩ := hK1
    rcases hb2.2 with h0 | ⟨g2, off2, rfl, hg2, hcc2⟩
    · exfalso; rw [h0] at hK; simp at hK; omega
    have HC := hid_mk hcc2
    have HK := hid_mk hK
    clear hb2 hcc2 hK hg2
    go_wp2_with (go_at_call 11; refine (alive_any (HTy.out.out HO2.out (.inr rfl))).mono ?_; rintro e w3 ⟨rfl, o3⟩; have HO3 := hid_mk (HO2.out.trans o3); have HC3 : Hid (∀ (j : Nat) v, E[j]? = some v → w3.cell? ⟨g2, off2 + j, none⟩ = some (.int .u8 v)) := hid_mk (fun j v hj => cell0 (HC.out j v hj) o3); have d10 := HC3.out 10 _ HE10.out.1; have d11 := HC3.out 11 _ HE10.out.2; clear o3)
    clear d10 d11
    obtain ⟨N, hN⟩ : ∃ N, zig x = N := ⟨_, rfl⟩
    rw [hN] at HN HS HZ HLn
    clear hN
    go_loopw [11, 12, 13] (fun q1 q2 q3 wr => ∃ j R U Z : Nat, q1 = .int .i64 ((12 + j : Nat) : Int) ∧ q2 = .int .i64 (Z : Int) ∧ q3 = .int .i64 (U : Int) ∧ LS N E tail j R U Z ∧ wr = w3) (fun q1 _ _ _ => 30 - (intOf q1).toNat)
    case atStart => exact ⟨0, N, 1, 0, rfl, rfl, rfl, LS.start HS.out, rfl⟩
    case round =>
      obtain ⟨j, R, U, Z, rfl, rfl, rfl, hls, rfl⟩ := hrel
      have HL := hid_mk hls
      obtain ⟨k1, k2, k3, k4⟩ := hls.small HN.out
      obtain ⟨A, hA⟩ : ∃ A, 12 + j = A := ⟨_, rfl⟩
      rw [hA]
      by_cases hR : 128 ≤ R
      · have dA := HC3.out _ _ (hls.at_big hR)
        rw [hA] at dA
        have hr : R % 128 < 128 := Nat.mod_lt _ (by decide)
        have HSt := hid_mk (hls.step hR)
        have hU : R % 128 * U ≤ R * U := Nat.mul_le_mul_right _ (Nat.mod_le _ _)
        obtain ⟨r, hrr⟩ : ∃ r, R % 128 = r := ⟨_, rfl⟩
        rw [hrr] at dA hr HSt hU
        have hlr : 2 ≤ (numB R).length := by rw [numB_ge hR, List.length_cons]; have := List.length_pos_iff.2 (numB_ne (R / 128)); omega
        have hlE := hls.len
        have htl : tail.length = 10 + (numB y).length := by rw [← HTl.out]; simp [le8]; omega
        have hA1 : (A : Int) < (K : Int) := by have := HLn.out; have := HK.out; omega
        have hA2 : (A : Int) < (K : Int) - 11 := by have := HLn.out; have := HK.out; omega
        have hA3 : (A : Int) < 21 := by omega
        have hU' : 0 ≤ (r : Int) * (U : Int) ∧ (r : Int) * (U : Int) ≤ 2305843009213693952 := by
          have : ((r * U : Nat) : Int) = (r : Int) * (U : Int) := Int.natCast_mul _ _
          omega
        have k5 : U ≤ 18014398509481984 := by have : 128 * U ≤ R * U := Nat.mul_le_mul_right _ hR; omega
        have HF := hid_mk (And.intro hU' (And.intro hr (And.intro k1 (And.intro k2 (And.intro k5 k4)))))
        have HA := hid_mk hA
        clear hls hlr hlE htl hU hr k1 k2 k3 k4 k5 hrr hR hA hU'
        go_wp2
        go_roundw
        case rel => exact ⟨j + 1, R / 128, U * 128, Z + r * U, by have := HA.out; congr 1; omega, by rw [z_step HF.out.2.1 HF.out.1.2 (by have := HF.out; omega)], by rw [u_step HF.out.2.2.2.2.1], HSt.out, trivial⟩
        case measure => simp [intOf]; omega
      · have hR' : R < 128 := by omega
        obtain ⟨dA0, dB0⟩ := hls.at_end hR'
        have dA := HC3.out _ _ dA0
        rw [hA] at dA dB0
        have hlR : (numB R).length = 1 := by rw [numB_lt hR']; rfl
        have hlE := hls.len
        have htl : tail.length = 10 + (numB y).length := by rw [← HTl.out]; simp [le8]; omega
        have HLy : Hid (K = A + 11 + (numB y).length ∧ 1 ≤ (numB y).length ∧ (numB y).length ≤ 3 ∧ 12 ≤ A ∧ A ≤ 20) := hid_mk (by have := HLn.out; have := HK.out; omega)
        have dB1 := HC3.out (A + 1) 5 (by have h := dB0 0; rw [← HTl.out] at h; exact h)
        have HBy : Hid (∀ i v, tail[i]? = some v → wr.cell? ⟨g2, off2 + (A + 1 + i), none⟩ = some (.int .u8 v)) := hid_mk fun i v h => HC3.out (A + 1 + i) v ((dB0 i).trans h)
        have hA1 : (A : Int) < (K : Int) := by have := HLy.out; omega
        have hA2 : (A : Int) + 12 ≤ (K : Int) := by have := HLy.out; omega
        have hA3 : (12 : Int) ≤ (A : Int) ∧ (A : Int) ≤ 20 := by have := HLy.out; omega
        obtain ⟨hA4, hA5⟩ := hA3
        have hsum := z_last hls.2.1 (by have := HN.out; omega)
        have hR0 : (R : Int) < 128 := by omega
        have hR1 : R = 0 → A = 12 := by intro h; have := hls.2.2.2.1; omega
        have hend : R = 0 → U = 1 ∧ Z = 0 ∧ N = 0 := by
          intro h
          obtain ⟨p1, p2, p3, p4, _⟩ := hls
          have hj0 : j = 0 := by omega
          rw [hj0] at p1
          subst h
          have : 0 * U = 0 := Nat.zero_mul _
          have : (128 : Nat) ^ 0 = 1 := rfl
          omega
        have HA := hid_mk hA
        clear hls dA0 dB0 hlR hlE htl k1 k2 k3 k4 hR hA
        have hpar := HZ.out
        have hN2 : (N : Int) % 2 = 0 ∧ wrap64 ((N : Int) / 2) = x := par_even hpar hx0.1 HN.out
        obtain ⟨hN3, hN4⟩ := hN2
        clear hpar
        by_cases hz : R = 0
        · have hA0 : A = 12 := hR1 hz
          obtain ⟨hU1, hZ1, hN1⟩ := hend hz
          subst hz hA0 hU1 hZ1 hN1
          obtain rfl : x = 0 := by have := HZ.out; simpa [zag] using this.symm
          clear hR1 hR' hR0 hend
          go_wp2
          obtain ⟨V, hV⟩ : ∃ V, bits % 18446744073709551616 = V := ⟨_, rfl⟩
          have HVb : Hid (0 ≤ V ∧ V < 18446744073709551616) := hid_mk (by omega)
          have HBk : Hid (∀ k : Nat, k < 8 → wr.cell? ⟨g2, off2 + (12 + 2 + k), none⟩ = some (.int .u8 (V / 256 ^ k % 256))) := hid_mk fun k hk => by
            have h := HBy.out (1 + k) (V / 256 ^ k % 256) (by rw [← HTl.out, Nat.add_comm 1 k, ← hV]; show (le8 bits ++ (14 :: numB y))[k]? = _; rw [List.getElem?_append_left (by rw [le8_eq]; exact hk)]; exact le8_at bits hk)
            rwa [show 12 + 1 + (1 + k) = 12 + 2 + k by omega] at h
          have HV := hid_mk hV
          clear hV
          go_loopw [14, 15] (fun q1 q2 ws => ∃ i : Nat, i ≤ 8 ∧ q1 = .int .u64 (V / 256 ^ (8 - i)) ∧ q2 = .int .i64 (7 - (i : Int)) ∧ ws = wr) (fun _ q2 _ => (intOf q2 + 1).toNat)
          case atStart => exact ⟨0, by omega, by congr 1; have := HVb.out; omega, rfl, rfl⟩
          case round =>
            obtain ⟨i, hi, rfl, rfl, hws⟩ := hrel
            subst hws
            by_cases hi8 : i < 8
            · obtain ⟨k, hk⟩ : ∃ k : Nat, 7 - i = k := ⟨_, rfl⟩
              have hki : (7 : Int) - (i : Int) = (k : Int) := by omega
              have hk8 : k < 8 := by omega
              have d1 := HBk.out k hk8
              obtain ⟨q, hq⟩ : ∃ q, V / 256 ^ k % 256 = q := ⟨_, rfl⟩
              obtain ⟨X, hX⟩ : ∃ X, V / 256 ^ (8 - i) = X := ⟨_, rfl⟩
              have HSt : Hid (X * 256 + q = V / 256 ^ k ∧ 0 ≤ X * 256 + q ∧ X * 256 + q < 18446744073709551616 ∧ 0 ≤ q ∧ q < 256 ∧ 0 ≤ X) := hid_mk (by rw [← hq, ← hX, show 8 - i = k + 1 by omega]; exact le8_step HVb.out.1 HVb.out.2 k)
              rw [hq] at d1
              rw [hki, hX]
              have hkI : (0 : Int) ≤ (k : Int) := by omega
              have hkJ : (k : Int) ≤ 7 := by omega
              have hAk : (12 : Int) + 2 + (k : Int) < (K : Int) := by omega
              have HK9 := hid_mk (And.intro hk hi8)
              clear hq hX hki hi8 hk
              go_wp2
              go_roundw
              case rel => exact ⟨i + 1, by have := HK9.out; omega, by rw [u_round HSt.out.2, HSt.out.1, show 8 - (i + 1) = k by have := HK9.out; omega], by have := HK9.out; congr 1; omega, trivial⟩
              case measure => simp [intOf]
            · obtain rfl : i = 8 := by omega
              have hv0 : V / 256 ^ (8 - 8) = V := by simp
              have hv1 : (7 : Int) - ((8 : Nat) : Int) = -1 := rfl
              rw [hv0, hv1]
              have hvb := bits_back HV.out HB.out
              have d14 := HBy.out 9 14 (by rw [← HTl.out]; show (le8 bits ++ (14 :: numB y))[8]? = _; rw [le8_eq]; rfl)
              rw [show 12 + 1 + 9 = 12 + 10 from rfl] at d14
              have hA10 : (12 : Int) + 10 < (K : Int) := by omega
              have hyc : ∀ (i : Nat) v, (numB y)[i]? = some v → wr.cell? ⟨g2, off2 + (12 + 11 + i), none⟩ = some (.int .u8 v) := fun i v h => by
                have g := HBy.out (10 + i) v (by rw [← HTl.out, le8_eq, Nat.add_comm 10 i]; exact h)
                rwa [show 12 + 1 + (10 + i) = 12 + 11 + i by omega] at g
              clear hv0 hv1 hi8 hi
              by_cases hy1 : y < 128
              · have hny := numB_lt hy1
                have e0 := hyc 0 (y : Int) (by rw [hny]; rfl)
                have hKK : K = 12 + 12 := by have := HLy.out; rw [hny] at this; simp at this; omega
                have hyI : (y : Int) < 128 := by omega
                subst hKK
                clear hny hyc hy1
                go_wp2
                go_ret
                exact ⟨rfl, HO3.out⟩
              · have hy128 : 128 ≤ y := by omega
                have hge := numB_ge hy128
                obtain ⟨r, hr⟩ : ∃ r, y % 128 = r := ⟨_, rfl⟩
                obtain ⟨d, hd⟩ : ∃ d, y / 128 = d := ⟨_, rfl⟩
                rw [hr, hd] at hge
                have hrI : (y : Int) % 128 = (r : Int) := by omega
                have hdI : (y : Int) / 128 = (d : Int) := by omega
                have hrl : (r : Int) < 128 := by omega
                have hyI : (128 : Int) ≤ (y : Int) := by omega
                have e0 := hyc 0 (128 + (r : Int)) (by rw [hge]; simp)
                by_cases hy2 : y < 16384
                · have hd1 : d < 128 := by omega
                  have hny := numB_lt hd1
                  rw [hny] at hge
                  have e1 := hyc 1 (d : Int) (by rw [hge]; rfl)
                  have hKK : K = 12 + 13 := by have := HLy.out; rw [hge] at this; simp at this; omega
                  have e1b : wr.cell? ⟨g2, off2 + (12 + 11) + 1, none⟩ = some (.int .u8 (d : Int)) := e1
                  have hyJ : (y : Int) < 16384 := by omega
                  have hdl : (d : Int) < 128 := by omega
                  subst hKK
                  clear hny hyc hy1 hge hy128 hy2 hr hd hd1
                  go_wp2
                  go_ret
                  exact ⟨rfl, HO3.out⟩
                · have hd1 : 128 ≤ d := by omega
                  have hny := numB_ge hd1
                  obtain ⟨r2, hr2⟩ : ∃ r, d % 128 = r := ⟨_, rfl⟩
                  obtain ⟨d2, hd2⟩ : ∃ k, d / 128 = k := ⟨_, rfl⟩
                  have hd3 : d2 < 128 := by have := HY.out; omega
                  rw [hr2, hd2, numB_lt hd3] at hny
                  rw [hny] at hge
                  have hrJ : (d : Int) % 128 = (r2 : Int) := by omega
                  have hdJ : (d : Int) / 128 = (d2 : Int) := by omega
                  have hrm : (r2 : Int) < 128 := by omega
                  have hdm : (d2 : Int) < 128 := by omega
                  have e1 := hyc 1 (128 + (r2 : Int)) (by rw [hge]; simp)
                  have e2 := hyc 2 (d2 : Int) (by rw [hge]; rfl)
                  have e1b : wr.cell? ⟨g2, off2 + (12 + 11) + 1, none⟩ = some (.int .u8 (128 + (r2 : Int))) := e1
                  have e2b : wr.cell? ⟨g2, off2 + (12 + 11) + 2, none⟩ = some (.int .u8 (d2 : Int)) := e2
                  have hKK : K = 12 + 14 := by have := HLy.out; rw [hge] at this; simp at this; omega
                  have hyJ : decide ((y : Int) < 16384) = false := by simp; omega
                  have hyL : decide (y < 16384) = false := by simp; omega
                  have hdK : (d : Int) < 16384 := by omega
                  subst hKK
                  clear hny hyc hy1 hge hy128 hy2 hr hd hd1 hr2 hd2 hd3
                  go_wp2
                  go_ret
                  exact ⟨rfl, HO3.out⟩
        · have hz1 : ((R : Int) == 0) = false := by simp; omega
          clear hR1 hz hend
          go_wp2
          obtain ⟨V, hV⟩ : ∃ V, bits % 18446744073709551616 = V := ⟨_, rfl⟩
          have HVb : Hid (0 ≤ V ∧ V < 18446744073709551616) := hid_mk (by omega)
          have HBk : Hid (∀ k : Nat, k < 8 → wr.cell? ⟨g2, off2 + (A + 2 + k), none⟩ = some (.int .u8 (V / 256 ^ k % 256))) := hid_mk fun k hk => by
            have h := HBy.out (1 + k) (V / 256 ^ k % 256) (by rw [← HTl.out, Nat.add_comm 1 k, ← hV]; show (le8 bits ++ (14 :: numB y))[k]? = _; rw [List.getElem?_append_left (by rw [le8_eq]; exact hk)]; exact le8_at bits hk)
            rwa [show A + 1 + (1 + k) = A + 2 + k by omega] at h
          have HV := hid_mk hV
          clear hV
          go_loopw [14, 15] (fun q1 q2 ws => ∃ i : Nat, i ≤ 8 ∧ q1 = .int .u64 (V / 256 ^ (8 - i)) ∧ q2 = .int .i64 (7 - (i : Int)) ∧ ws = wr) (fun _ q2 _ => (intOf q2 + 1).toNat)
          case atStart => exact ⟨0, by omega, by congr 1; have := HVb.out; omega, rfl, rfl⟩
          case round =>
            obtain ⟨i, hi, rfl, rfl, hws⟩ := hrel
            subst hws
            by_cases hi8 : i < 8
            · obtain ⟨k, hk⟩ : ∃ k : Nat, 7 - i = k := ⟨_, rfl⟩
              have hki : (7 : Int) - (i : Int) = (k : Int) := by omega
              have hk8 : k < 8 := by omega
              have d1 := HBk.out k hk8
              obtain ⟨q, hq⟩ : ∃ q, V / 256 ^ k % 256 = q := ⟨_, rfl⟩
              obtain ⟨X, hX⟩ : ∃ X, V / 256 ^ (8 - i) = X := ⟨_, rfl⟩
              have HSt : Hid (X * 256 + q = V / 256 ^ k ∧ 0 ≤ X * 256 + q ∧ X * 256 + q < 18446744073709551616 ∧ 0 ≤ q ∧ q < 256 ∧ 0 ≤ X) := hid_mk (by rw [← hq, ← hX, show 8 - i = k + 1 by omega]; exact le8_step HVb.out.1 HVb.out.2 k)
              rw [hq] at d1
              rw [hki, hX]
              have hkI : (0 : Int) ≤ (k : Int) := by omega
              have hkJ : (k : Int) ≤ 7 := by omega
              have hAk : (A : Int) + 2 + (k : Int) < (K : Int) := by omega
              have HK9 := hid_mk (And.intro hk hi8)
              clear hq hX hki hi8 hk
              go_wp2
              go_roundw
              case rel => exact ⟨i + 1, by have := HK9.out; omega, by rw [u_round HSt.out.2, HSt.out.1, show 8 - (i + 1) = k by have := HK9.out; omega], by have := HK9.out; congr 1; omega, trivial⟩
              case measure => simp [intOf]
            · obtain rfl : i = 8 := by omega
              have hv0 : V / 256 ^ (8 - 8) = V := by simp
              have hv1 : (7 : Int) - ((8 : Nat) : Int) = -1 := rfl
              rw [hv0, hv1]
              have hvb := bits_back HV.out HB.out
              have d14 := HBy.out 9 14 (by rw [← HTl.out]; show (le8 bits ++ (14 :: numB y))[8]? = _; rw [le8_eq]; rfl)
              rw [show A + 1 + 9 = A + 10 from rfl] at d14
              have hA10 : (A : Int) + 10 < (K : Int) := by omega
              have hyc : ∀ (i : Nat) v, (numB y)[i]? = some v → wr.cell? ⟨g2, off2 + (A + 11 + i), none⟩ = some (.int .u8 v) := fun i v h => by
                have g := HBy.out (10 + i) v (by rw [← HTl.out, le8_eq, Nat.add_comm 10 i]; exact h)
                rwa [show A + 1 + (10 + i) = A + 11 + i by omega] at g
              clear hv0 hv1 hi8 hi
              by_cases hy1 : y < 128
              · have hny := numB_lt hy1
                have e0 := hyc 0 (y : Int) (by rw [hny]; rfl)
                have hKK : K = A + 12 := by have := HLy.out; rw [hny] at this; simp at this; omega
                have hyI : (y : Int) < 128 := by omega
                subst hKK
                clear hny hyc hy1
                go_wp2
                go_ret
                exact ⟨rfl, HO3.out⟩
              · have hy128 : 128 ≤ y := by omega
                have hge := numB_ge hy128
                obtain ⟨r, hr⟩ : ∃ r, y % 128 = r := ⟨_, rfl⟩
                obtain ⟨d, hd⟩ : ∃ d, y / 128 = d := ⟨_, rfl⟩
                rw [hr, hd] at hge
                have hrI : (y : Int) % 128 = (r : Int) := by omega
                have hdI : (y : Int) / 128 = (d : Int) := by omega
                have hrl : (r : Int) < 128 := by omega
                have hyI : (128 : Int) ≤ (y : Int) := by omega
                have e0 := hyc 0 (128 + (r : Int)) (by rw [hge]; simp)
                by_cases hy2 : y < 16384
                · have hd1 : d < 128 := by omega
                  have hny := numB_lt hd1
                  rw [hny] at hge
                  have e1 := hyc 1 (d : Int) (by rw [hge]; rfl)
                  have hKK : K = A + 13 := by have := HLy.out; rw [hge] at this; simp at this; omega
                  have e1b : wr.cell? ⟨g2, off2 + (A + 11) + 1, none⟩ = some (.int .u8 (d : Int)) := e1
                  have hyJ : (y : Int) < 16384 := by omega
                  have hdl : (d : Int) < 128 := by omega
                  subst hKK
                  clear hny hyc hy1 hge hy128 hy2 hr hd hd1
                  go_wp2
                  go_ret
                  exact ⟨rfl, HO3.out⟩
                · have hd1 : 128 ≤ d := by omega
                  have hny := numB_ge hd1
                  obtain ⟨r2, hr2⟩ : ∃ r, d % 128 = r := ⟨_, rfl⟩
                  obtain ⟨d2, hd2⟩ : ∃ k, d / 128 = k := ⟨_, rfl⟩
                  have hd3 : d2 < 128 := by have := HY.out; omega
                  rw [hr2, hd2, numB_lt hd3] at hny
                  rw [hny] at hge
                  have hrJ : (d : Int) % 128 = (r2 : Int) := by omega
                  have hdJ : (d : Int) / 128 = (d2 : Int) := by omega
                  have hrm : (r2 : Int) < 128 := by omega
                  have hdm : (d2 : Int) < 128 := by omega
                  have e1 := hyc 1 (128 + (r2 : Int)) (by rw [hge]; simp)
                  have e2 := hyc 2 (d2 : Int) (by rw [hge]; rfl)
                  have e1b : wr.cell? ⟨g2, off2 + (A + 11) + 1, none⟩ = some (.int .u8 (128 + (r2 : Int))) := e1
                  have e2b : wr.cell? ⟨g2, off2 + (A + 11) + 2, none⟩ = some (.int .u8 (d2 : Int)) := e2
                  have hKK : K = A + 14 := by have := HLy.out; rw [hge] at this; simp at this; omega
                  have hyJ : decide ((y : Int) < 16384) = false := by simp; omega
                  have hyL : decide (y < 16384) = false := by simp; omega
                  have hdK : (d : Int) < 16384 := by omega
                  subst hKK
                  clear hny hyc hy1 hge hy128 hy2 hr hd hd1 hr2 hd2 hd3
                  go_wp2
                  go_ret
                  exact ⟨rfl, HO3.out⟩
end Go.Proofs.YthijkfcobkdihaaDoor
