import Derived.Test.YtjbbkeoolodeaabDoorNv
import Derived.Test.YtjbbkeoolodeaabDoorNg
import Derived.Test.YtjbbkeoolodeaabDoorNt
namespace Go.Proofs.YtjbbkeoolodeaabDoor
open Go.RowKit
set_option linter.unusedVariables false
set_option linter.unusedSimpArgs false

theorem eq_nilSk (W : World) (a : Addr) (n c : Nat) : (binOp .eql 27 (.slice (some a) n c) (.slice none 0 0)).run Tryd.prog W = .ok (.bool false) W := by kernel_rfl
theorem SlI.mono {w : World} {b b' : Nat} {p : Option Addr} {L : List Int} (h : SlI w b p L) (hb : b ≤ b') : SlI w b' p L := by
  refine ⟨h.1, ?_⟩
  rcases h.2 with h | ⟨g, off, h1, h2, h3⟩
  · exact .inl h
  · exact .inr ⟨g, off, h1, by omega, h3⟩
theorem WSt.aside {w0 w w' : World} {b N lo hi cap x : Nat} {s : Nat → Nat} {st : Sp} {l : List (Nat × Blk)} (h : WSt w0 b N lo hi cap s w st l) (o : Out x (x + 1) w w') (hx : w0.heap.size ≤ x) {v : Value} (hv : WAt w b N (s 14) v st.last) (hb : ∀ g, v.ownBlock = some g → g ≠ x) : WSt w0 b N lo hi cap s w' st l := by
  refine h.far o hx fun v' hv' e => ?_
  have e1 := hv.cells.2.2.1
  have e2 := hv'.cells.2.2.1
  rw [e1] at e2
  injection e2 with e2
  rw [← e2] at e
  exact hb x e rfl
theorem peek_at {w : World} {lo hi n cap : Nat} {s : Nat → Nat} {st : Sp} (h : RawAt w lo hi s n cap (rawOf n st)) {a : Nat} (ha : a < 64 * n) : Calls Tryd.prog 22 #[.pointer (some ⟨s 14, 0, none⟩), .int .i64 (a : Int)] w fun e w' => e = .returned (.tuple #[.int .i64 (st.W a), .bool true]) ∧ w' = w := by
  have := peek_any h (a : Int)
  unfold peekV at this
  rw [show inB (64 * n) (a : Int) = true from by unfold inB; simp; omega, if_pos rfl] at this
  exact this
theorem wrong_at {w : World} {lo hi n cap : Nat} {s : Nat → Nat} {r : Raw} (h : RawAt w lo hi s n cap r) (hT : Told r) {v : Int} (hv : nxr (wrTo n r 8) (64 * n) 0 = v) :
    Calls Tryd.prog 17 #[.pointer (some ⟨s 14, 0, none⟩)] w fun e w' => e = .returned (.int .i64 v) ∧ Out 0 0 w w' := by
  rw [← hv]; exact wrong_any h hT
theorem lk_row2 {w : World} {G m n : Nat} {st : Sp} {c i a : Nat} {v u : Int} (h : Row w G 3 m (fun j => if j = a then .int .i64 u else .int .i64 (lkI n st c i j))) (ha : (frL n st (c : Int) (64 * n))[i]? = some (a : Int)) (hv : linkV (nf n st (c : Int) (a + 1)) = v) : Row (w.setCell ⟨G, a, none⟩ (.int .i64 v)) G 3 m (fun j => .int .i64 (lkI n st c (i + 1) j)) := by
  refine (h.set a (.int .i64 v)).congr fun j _ => ?_
  show (if j = a then _ else _) = _
  rw [← lk_step ha j, hv]
  by_cases e : j = a
  · rw [if_pos e, if_pos e]
  · rw [if_neg e, if_neg e, if_neg e]
set_option maxRecDepth 100000 in
set_option maxHeartbeats 16000000 in
theorem kept_any {w : World} (hT : Tab w) (n0 : Int) (hn : -9223372036854775808 ≤ n0 ∧ n0 ≤ 9223372036854775807) {os : List OpQ} {p : Option Addr} {cp : Nat} (hS : ScrAt w w.heap.size p os) {zs : List Int} {zp : Option Addr} {zc : Nat} (hZ : SlI w w.heap.size zp zs) :
    Calls Tryd.prog 5 #[.int .i64 n0, .slice p os.length cp, .slice zp zs.length zc] w fun e w' => e = .returned (.bool true) ∧ Out 0 0 w w' := by
  have HZ := hid_mk hZ
  have z0 : (0 : Int) ≤ (zs.length : Int) := by omega
  clear hZ
  have HAl := hid_mk (fun w' (hT' : Tab w') => alive_any hT')
  have HT := hid_mk hT
  have HS := hid_mk hS
  obtain ⟨m, hm, hm2⟩ := wth_nat n0 12 (by decide)
  obtain ⟨N, hN⟩ : ∃ N : Nat, 1 + wth n0 12 = (N : Int) := ⟨1 + m, by rw [hm]; push_cast; rfl⟩
  have HN : Hid (1 ≤ N ∧ N ≤ 12) := by show _ ∧ _; omega
  have HBg := hid_mk (begun_any hT n0 hn.1 hn.2 hN)
  clear hT hS hn hm hm2 hN m
  go_enter Tryd.func5, Tryd.ntmps5
  go_wp2_with fail
  refine HBg.out.mono ?_
  rintro e w1 ⟨b, lo, hi, s, cap, rfl, hw1, hs1, hb1, hl1, ho1⟩
  have H1 := hid_mk (And.intro hw1 (And.intro hs1 (And.intro hb1 (And.intro hl1 ho1))))
  have HA1 := hid_mk (HAl.out _ (HT.out.quiet ho1))
  clear hw1 hs1 hb1 hl1 ho1 HBg
  go_wp2_with fail
  refine HA1.out.mono ?_
  rintro e w2 ⟨rfl, ho2⟩
  have HO2 := hid_mk (H1.out.2.2.2.2.trans ho2)
  have HSm := hid_mk (fun w' (o : Out 0 0 w w') => small_at (cp := cp) (HS.out.kept o (.inr rfl)))
  have HA2 := hid_mk (fun w' (o : Out 0 0 w w') => HAl.out _ (HT.out.quiet o))
  have H2 := hid_mk (And.intro (H1.out.1.kept ho2 (.inr (Nat.zero_le _))) (And.intro (H1.out.2.1.quiet ho2) (And.intro H1.out.2.2.1 H1.out.2.2.2.1)))
  clear ho2 H1 HA1 HAl
  go_wp2_with fail
  refine (HSm.out _ HO2.out).mono ?_
  rintro e wx ⟨hwx, rfl⟩
  rw [hwx]
  clear hwx wx
  cases hr : smB os with
  | false =>
    rw [hr] at HSm
    clear hr
    go_wp2_with fail
    refine (HA2.out _ HO2.out).mono ?_
    rintro e w3 ⟨rfl, ho3⟩
    have HO3 := hid_mk (HO2.out.trans ho3)
    clear ho3
    go_wp2_with fail
    refine (HSm.out _ HO3.out).mono ?_
    rintro e wx ⟨hwx, rfl⟩
    rw [hwx]
    clear hwx wx
    go_wp2_with fail
    go_ret
    exact ⟨rfl, HO3.out⟩
  | true =>
    have HR := hid_mk (smB_all hr)
    rw [hr] at HSm
    clear hr
    by_cases hz4 : zs.length ≤ 400
    case neg =>
      have z4 : (400 : Int) < (zs.length : Int) := by omega
      go_wp2_with fail
      refine (HA2.out _ HO2.out).mono ?_
      rintro e w3 ⟨rfl, ho3⟩
      have HO3 := hid_mk (HO2.out.trans ho3)
      clear ho3
      go_wp2_with fail
      refine (HSm.out _ HO3.out).mono ?_
      rintro e wx ⟨hwx, rfl⟩
      rw [hwx]
      clear hwx wx
      go_wp2_with fail
      go_ret
      exact ⟨rfl, HO3.out⟩
    case pos =>
    have z4 : ¬ (400 : Int) < (zs.length : Int) := by omega
    have z5 : decide ((400 : Int) < (zs.length : Int)) = false := decide_eq_false z4
    have HZ4 := hid_mk hz4
    have hq := H2.out
    have hst := wst_new hq.2.2.2 (by have := HT.out.lt; omega) hq.2.1 hq.1
    have hsc := (HS.out.kept HO2.out (.inr rfl)).mono (b' := b) hq.2.2.1
    have HP := hid_mk (played_any (cp := cp) hst HN.out.2 (Int.le_refl 0) hsc HR.out hq.1.lt)
    have HQ := hid_mk hq.2.2.1
    clear hq hst hsc H2 HA2 HSm hz4
    go_wp2_with fail
    refine HP.out.mono ?_
    rintro e w3 ⟨rfl, hst3⟩
    obtain ⟨⟨st, l⟩, hF⟩ : ∃ q, plP N (newSp, []) os (min os.length 120) = q := ⟨_, rfl⟩
    rw [hF] at hst3
    have HO3 := hid_mk (HO2.out.past hst3.2.1 HQ.out)
    have HI0 := hid_mk hst3.2.2.1.2
    have HBb := hid_mk (And.intro hst3.1 hst3.2.1.size)
    have HDp := hid_mk (dumpF hst3.2.2.1)
    have H3 := hid_mk hst3
    obtain ⟨v3, k3, _⟩ := hst3.2.2.2.2.2
    have c1 := k3.cells.2.1
    clear hst3 HP k3 hF
    obtain ⟨M, hM⟩ : ∃ M, 64 * N = M := ⟨_, rfl⟩
    have hNn := HN.out
    have M0 : (64 : Int) ≤ (M : Int) := by omega
    have M1 : (M : Int) ≤ 768 := by omega
    have hMi : (64 : Int) * (N : Int) = (M : Int) := by omega
    have n0' : (1 : Int) ≤ (N : Int) := by omega
    have n1' : (N : Int) ≤ 12 := by omega
    clear hNn
    go_wp2_with fail
    refine HDp.out.mono ?_
    rintro e w4 ⟨zo2, gw, gp, zc0, zc1, zc2, k0, k1, k2, k3, k4, k5, k6, k7, rfl, hg1, hg2, hg3, hg4, hw4, hp4, ho4⟩
    obtain ⟨q, hq⟩ : ∃ q, (objsTo (rawOf N st) (64 * N)).length = q := ⟨_, rfl⟩
    rw [hq]
    rw [hM] at hw4 ⊢
    have HO4 := hid_mk (HO3.out.trans ho4)
    have HKp := hid_mk (keeps_anyO (p := zp) (cp := zc) (H3.out.quiet ho4) HN.out.2 ((HZ.out.kept HO4.out (.inr rfl)).mono HQ.out) HZ4.out)
    have HW4 := hid_mk (And.intro hg1 hw4)
    have hfw := field_w
    clear hg1 hg2 hg3 hg4 hw4 hp4 ho4 HDp c1 hq H3
    go_wp2_with fail
    refine HKp.out.mono ?_
    rintro e w5 ⟨rfl, hst5, ho5⟩
    clear HKp hfw
    obtain ⟨ps, hps⟩ : ∃ ps, psF l zs = ps := ⟨_, rfl⟩
    obtain ⟨l2, hl2⟩ : ∃ l2, (kpP N st l zs).2 = l2 := ⟨_, rfl⟩
    have hk1 : (kpP N st l zs).1 = keepSp N st ps := by rw [← hps]; rfl
    rw [hk1, hl2] at hst5
    clear hk1 hl2 hps
    have HO5 := hid_mk (HO4.out.past ho5 HQ.out)
    have HWas := hid_mk (fun j (hj : j < M) => ho5.cell (HW4.out.2 j hj) (.inr (by have := HBb.out; have := HW4.out.1; show hi ≤ gw; omega)))
    have hgw : hi ≤ gw := by have := HBb.out; have := HW4.out.1; omega
    clear HW4 ho5
    have HOb := hid_mk hst5.2.2.2.2.1
    have HIk := hid_mk hst5.2.2.1.2
    have HRk := hid_mk hst5.2.2.2.1
    have hOw := owner_any hst5 HN.out.2
    rw [hM] at hOw
    have HOw := hid_mk hOw
    have H5 := hid_mk hst5
    clear hOw hst5
    go_wp2_with fail
    refine HOw.out.mono ?_
    rintro e w6 ⟨rfl, _, ho6⟩
    have hOw2 := owner_any (H5.out.quiet ho6) HN.out.2
    rw [hM] at hOw2
    have HOw2 := hid_mk hOw2
    have H6 := hid_mk (And.intro (H5.out.quiet ho6) ho6)
    obtain ⟨v6, q6, _⟩ := H6.out.1.2.2.2.2.2
    have c0 := q6.cells.1
    have heq := eq_nilSk
    clear ho6 hOw2 HOw q6
    go_wp2_with fail
    refine HOw2.out.mono ?_
    rintro e w7 ⟨rfl, hrow, ho7⟩
    obtain ⟨G1, hG1⟩ : ∃ G, w6.heap.size = G := ⟨_, rfl⟩
    rw [hG1] at hrow ⊢
    have H7 := hid_mk (And.intro (H6.out.1.quiet ho7) (H6.out.2.trans ho7))
    have HRo := hid_mk hrow
    have hmk := run_make_row' (P := Tryd.prog) 27 3 (.int .i64 0) 8 Tryd.underlying27 (by kernel_rfl) rfl .i64 .i64 M (by omega) (by omega)
    clear c0 heq
    obtain ⟨v7, q7, b7⟩ := H7.out.1.2.2.2.2.2
    have c0 := q7.cells.1
    have HV7 := hid_mk (And.intro q7 (fun g hg => (own_block b7 g hg).2))
    have HG1 : Hid (G1 < w7.heap.size ∧ w5.heap.size ≤ G1) := ⟨hrow.lt, by rw [← hG1]; exact H6.out.2.size⟩
    clear hrow ho7 HOw2 hG1 H6 q7 b7
    go_wp2_with fail
    obtain ⟨W8, hW8⟩ : ∃ W, w7.alloc (.cells (madeCells #[.int .i64 0] M) 3) = W := ⟨_, rfl⟩
    obtain ⟨G2, hG2⟩ : ∃ G, w7.heap.size = G := ⟨_, rfl⟩
    have o8 : Out 0 0 w7 W8 := by rw [← hW8]; exact (Out.refl 0 0 w7).alloc _
    have HR8 : Hid (Row W8 G2 3 M (fun j => .int .i64 (lkC N (keepSp N st ps) 0 j))) := by
      rw [← hW8, ← hG2]
      refine ⟨_, heap_alloc_new _ _, by simp [madeCells], fun j hj => ?_⟩
      exact made_i hj
    have HZ8 : Hid (W8.heap.size = G2 + 1) := by rw [← hW8, ← hG2]; exact World.size_alloc _ _
    have HO8 := hid_mk ((HO5.out.trans H7.out.2).trans o8)
    have HS8 := hid_mk (H7.out.1.quiet o8)
    have HV8 : Hid (WAt W8 b N (s 14) v7 (keepSp N st ps).last ∧ ∀ g, v7.ownBlock = some g → g ≠ G2) := ⟨HV7.out.1.kept o8 (.inr (Nat.zero_le _)), fun g hg => by have := HV7.out.2 g hg; omega⟩
    have HRo8 := hid_mk (HRo.out.kept o8 (.inr (Nat.zero_le _)))
    have HWas8 := hid_mk (fun j (hj : j < M) => (H7.out.2.trans o8).cell (HWas.out j hj) (.inr (Nat.zero_le _)))
    have HB8 : Hid (b < lo ∧ lo ≤ hi ∧ hi ≤ w2.heap.size ∧ w2.heap.size ≤ G2 ∧ hi ≤ gw ∧ gw < G2 ∧ G1 < G2 ∧ 4 ≤ b ∧ w.heap.size ≤ b) := by
      have a1 := HBb.out
      have a2 := HG1.out
      have a3 := HQ.out
      have a4 : gw < w5.heap.size := cell_lt (HWas.out 0 (by omega))
      have a5 := H7.out.1.2.1.size
      have a6 := H7.out.2.size
      show _ ∧ _
      omega
    rw [hW8]
    (try rw [hG2])
    clear hW8 hG2 o8 c0 hmk H7 HRo HWas HV7 HG1 H5 hgw HBb HO5 HO4
    have HWf := hid_mk (fun wr (o : Out G2 (G2 + 1) W8 wr) => HS8.out.aside o (by have := HB8.out; omega) HV8.out.1 HV8.out.2)
    go_loopw [11] (fun u wr => ∃ c : Nat, u = .int .i64 (c : Int) ∧ c ≤ 8 ∧ Row wr G2 3 M (fun j => .int .i64 (lkC N (keepSp N st ps) c j)) ∧ Out G2 (G2 + 1) W8 wr) (fun u _ => 8 - (intOf u).toNat)
    case atStart => exact ⟨0, rfl, Nat.zero_le _, HR8.out, Out.refl _ _ _⟩
    case round =>
      clear HR8
      obtain ⟨c, rfl, cb, r1, r2⟩ := hrel
      have cz : (0 : Int) ≤ (c : Int) := by omega
      by_cases hc : c < 8
      · have c8 : (c : Int) < 8 := by omega
        have HFi := hid_mk (firsts_at (HWf.out _ r2) HN.out.2 hc)
        have HRd := hid_mk (And.intro r1 r2)
        clear r1 r2
        go_wp2_with fail
        refine HFi.out.mono ?_
        rintro e w9 ⟨cs, so, scp, rfl, hcs, hce, ho9⟩
        obtain ⟨L, hL⟩ : ∃ L, frL N (keepSp N st ps) (c : Int) (64 * N) = L := ⟨_, rfl⟩
        obtain ⟨m, hm⟩ : ∃ m, L.length = m := ⟨_, rfl⟩
        rw [hL, hm] at hcs
        rw [hL] at hce
        have hidx := index88 cs c _ hc hcs
        have hl7 := frL_len (n := N) (st := keepSp N st ps) (c : Int) (64 * N)
        rw [hL, hm] at hl7
        have m0 : (0 : Int) ≤ (m : Int) := by omega
        have m1 : (m : Int) ≤ 768 := by have := HN.out; omega
        have HL := hid_mk (And.intro hL (And.intro hm (And.intro hce ho9)))
        have hsz9 : G2 + 1 ≤ wr.heap.size := by have := HRd.out.2.size; have := HZ8.out; omega
        have HSz := hid_mk hsz9
        have HR9 : Hid (Row w9 G2 3 M (fun j => .int .i64 (lkI N (keepSp N st ps) c 0 j))) := (HRd.out.1.kept ho9 (.inr (Nat.zero_le _))).congr fun j _ => by rw [lk_zero]
        clear hcs hce ho9 hL hm hl7 HFi hsz9
        go_wp2_with fail
        clear hidx
        go_loopw [13] (fun u wq => ∃ i : Nat, u = .int .i64 (i : Int) ∧ i ≤ m ∧ Row wq G2 3 M (fun j => .int .i64 (lkI N (keepSp N st ps) c i j)) ∧ Out G2 (G2 + 1) w9 wq) (fun u _ => m - (intOf u).toNat)
        case atStart => exact ⟨0, rfl, Nat.zero_le _, HR9.out, Out.refl _ _ _⟩
        case round =>
          clear HR9
          obtain ⟨i, rfl, ib, r1, r2⟩ := hrel
          have i0 : (0 : Int) ≤ (i : Int) := by omega
          by_cases hi' : i < m
          · have i2 : (i : Int) < (m : Int) := by omega
            obtain ⟨x, hx⟩ : ∃ x, L[i]? = some x := ⟨_, List.getElem?_eq_getElem (by have := HL.out.2.1; omega)⟩
            obtain ⟨a, a1, a2, rfl⟩ := frL_mem.1 (by rw [HL.out.1]; exact List.mem_of_getElem? hx : x ∈ frL N (keepSp N st ps) (c : Int) (64 * N))
            have hxs : (frL N (keepSp N st ps) (c : Int) (64 * N))[i]? = some (a : Int) := by rw [HL.out.1]; exact hx
            have hnx := frL_next hxs
            obtain ⟨g, rfl, g1, g2, g3⟩ := HL.out.2.2.1 i (a : Int) hx
            have hsz := HSz.out
            have d0 := r2.cell g3 (.inr (by show G2 + 1 ≤ g; omega))
            have aM : a < M := by omega
            have a3 : (0 : Int) ≤ (a : Int) := by omega
            have a4 : (a : Int) < (M : Int) := by omega
            have d1 := r1.cell aM
            have d2 := r1.frozen a
            have hgg : G2 + 1 ≤ g := by omega
            have hgG : g ≠ G2 := by omega
            by_cases hi1 : i + 1 < m
            · obtain ⟨i5, hi5'⟩ : ∃ i5, i + 1 = i5 := ⟨_, rfl⟩
              have hi5 : (i : Int) + 1 = (i5 : Int) := by omega
              have i3 : (i5 : Int) < (m : Int) := by omega
              have i4 : (0 : Int) ≤ (i5 : Int) := by omega
              obtain ⟨y, hy⟩ : ∃ y, L[i + 1]? = some y := ⟨_, List.getElem?_eq_getElem (by have := HL.out.2.1; omega)⟩
              obtain ⟨b', b1, b2, rfl⟩ := frL_mem.1 (by rw [HL.out.1]; exact List.mem_of_getElem? hy : y ∈ frL N (keepSp N st ps) (c : Int) (64 * N))
              obtain ⟨g', eg, _, _, g4⟩ := HL.out.2.2.1 (i + 1) (b' : Int) hy
              injection eg with eg
              injection eg with eg
              subst eg
              have d3 := r2.cell g4 (.inr (by show G2 + 1 ≤ g; omega))
              rw [hi5'] at d3
              have b3 : (0 : Int) ≤ (b' : Int) := by omega
              have b4 : (b' : Int) < (M : Int) := by omega
              obtain ⟨y8, hy8⟩ : ∃ y, (b' : Int) * 8 = y := ⟨_, rfl⟩
              obtain ⟨y, hyv⟩ : ∃ y, y8 + 4 = y := ⟨_, rfl⟩
              rw [HL.out.1, hy] at hnx
              have hlv : linkV (nf N (keepSp N st ps) (c : Int) (a + 1)) = y := by rw [hnx, ← hyv, ← hy8]; exact link_small (by simp <;> omega) (by simp <;> omega)
              have HRq := hid_mk (And.intro r1 (And.intro r2 (And.intro hxs hlv)))
              have y1 : (0 : Int) ≤ y := by omega
              have y2 : y ≤ 10000 := by omega
              have y3 : (0 : Int) ≤ y8 := by omega
              have y4 : y8 ≤ 10000 := by omega
              have w1' : IntKind.i64.wrap y8 = y8 := by simp [IntKind.wrap, IntKind.signed, IntKind.bits]; omega
              have w2' : IntKind.i64.wrap y = y := by simp [IntKind.wrap, IntKind.signed, IntKind.bits]; omega
              have w3' : IntKind.i64.wrap (i5 : Int) = (i5 : Int) := by simp [IntKind.wrap, IntKind.signed, IntKind.bits]; omega
              clear r1 r2 hxs hlv hnx hx hy g1 g2 g3 g4 b1 b2 a1 a2
              go_wp2_with fail
              obtain ⟨V, hV⟩ : ∃ W, wr.setCell ⟨G2, a, none⟩ (.int .i64 (-4)) = W := ⟨_, rfl⟩
              have OV : Out G2 (G2 + 1) wr V := by rw [← hV]; exact (Out.refl _ _ _).setCell (p := ⟨G2, a, none⟩) (.inl ⟨Nat.le_refl _, Nat.lt_succ_self _⟩) _
              have RV : Row V G2 3 M (fun j => if j = a then .int .i64 (-4) else .int .i64 (lkI N (keepSp N st ps) c i j)) := by rw [← hV]; exact HRq.out.1.set a _
              have e0 := OV.cell d0 (.inr hgg)
              have e1 := OV.cell d3 (.inr hgg)
              rw [hV]
              clear hV d0 d1 d2 d3
              refine wp_region_held_drew (S := fun w' => w'.cell? ⟨g, i, none⟩ = some (.int .i64 (a : Int)) ∧ w'.cell? ⟨g, i5, none⟩ = some (.int .i64 (b' : Int))) (by kernel_rfl) ?hS1 (fun hHeld => ?rest1)
              case hS1 => exact ⟨e0, e1⟩
              obtain ⟨ZV, hZ⟩ : ∃ Z, V.drew = Z := ⟨_, rfl⟩
              have OZV : Out 0 0 V ZV := by rw [← hZ]; exact (Out.refl 0 0 V).drew
              rw [hZ] at hHeld ⊢
              clear hZ
              have RZ := RV.kept OZV (.inr (Nat.zero_le _))
              refine wpAnyH_take (i := 0) (v := ?v2) rfl (by kernel_rfl) (by kernel_rfl) (by kernel_rfl) (fun _ _ _ h => h) (Or.inl ⟨by rfl, ?hy2⟩) (by assumption) ?rest2
              case hy2 => (intro w hSw; (try dsimp only at hSw); simp only [List.getElem_toArray, List.getElem_cons_zero, List.getElem_cons_succ]; go_simp; (try with_reducible rfl))
              (try simp only [Act.put, List.getElem_toArray, List.getElem_cons_zero, List.getElem_cons_succ, List.setIfInBounds_toArray, List.set_cons_zero, List.set_cons_succ])
              refine wpAnyH_take (i := 1) (v := ?v3) rfl (by kernel_rfl) (by kernel_rfl) (by kernel_rfl) (fun _ _ _ h => h) (Or.inl ⟨by rfl, ?hy3⟩) (by assumption) ?rest3
              case hy3 => (intro w hSw; (try dsimp only at hSw); simp only [List.getElem_toArray, List.getElem_cons_zero, List.getElem_cons_succ]; go_simp; (try with_reducible rfl))
              (try simp only [Act.put, List.getElem_toArray, List.getElem_cons_zero, List.getElem_cons_succ, List.setIfInBounds_toArray, List.set_cons_zero, List.set_cons_succ])
              refine wpAnyH_take (i := 2) (v := ?v4) rfl (by kernel_rfl) (by kernel_rfl) (by kernel_rfl) (fun _ _ _ h => h) (Or.inl ⟨by rfl, ?hy4⟩) (by assumption) ?rest4
              case hy4 => (intro w hSw; (try dsimp only at hSw); simp only [List.getElem_toArray, List.getElem_cons_zero, List.getElem_cons_succ]; go_simp; (try with_reducible rfl))
              (try simp only [Act.put, List.getElem_toArray, List.getElem_cons_zero, List.getElem_cons_succ, List.setIfInBounds_toArray, List.set_cons_zero, List.set_cons_succ])
              refine wpAnyH_take (i := 3) (v := ?v5) rfl (by kernel_rfl) (by kernel_rfl) (by kernel_rfl) (fun _ _ _ h => h) (Or.inl ⟨by rfl, ?hy5⟩) (by assumption) ?rest5
              case hy5 => (intro w hSw; (try dsimp only at hSw); simp only [List.getElem_toArray, List.getElem_cons_zero, List.getElem_cons_succ]; go_simp; (try with_reducible rfl))
              (try simp only [Act.put, List.getElem_toArray, List.getElem_cons_zero, List.getElem_cons_succ, List.setIfInBounds_toArray, List.set_cons_zero, List.set_cons_succ])
              refine wpAnyH_take (i := 4) (v := ?v6) rfl (by kernel_rfl) (by kernel_rfl) (by kernel_rfl) (fun _ _ _ h => h) (Or.inl ⟨by rfl, ?hy6⟩) (by assumption) ?rest6
              case hy6 => (intro w hSw; (try dsimp only at hSw); simp only [List.getElem_toArray, List.getElem_cons_zero, List.getElem_cons_succ]; go_simp; (try with_reducible rfl))
              (try simp only [Act.put, List.getElem_toArray, List.getElem_cons_zero, List.getElem_cons_succ, List.setIfInBounds_toArray, List.set_cons_zero, List.set_cons_succ])
              refine wpAnyH_take (i := 5) (v := ?v7) rfl (by kernel_rfl) (by kernel_rfl) (by kernel_rfl) (fun _ _ _ h => h) (Or.inl ⟨by rfl, ?hy7⟩) (by assumption) ?rest7
              case hy7 => (intro w hSw; (try dsimp only at hSw); simp only [List.getElem_toArray, List.getElem_cons_zero, List.getElem_cons_succ]; go_simp; (try with_reducible rfl))
              (try simp only [Act.put, List.getElem_toArray, List.getElem_cons_zero, List.getElem_cons_succ, List.setIfInBounds_toArray, List.set_cons_zero, List.set_cons_succ])
              refine wpAnyH_take (i := 6) (v := ?v8) rfl (by kernel_rfl) (by kernel_rfl) (by kernel_rfl) (fun _ _ _ h => h) (Or.inl ⟨by rfl, ?hy8⟩) (by assumption) ?rest8
              case hy8 => (intro w hSw; (try dsimp only at hSw); simp only [List.getElem_toArray, List.getElem_cons_zero, List.getElem_cons_succ]; go_simp; (try with_reducible rfl))
              (try simp only [Act.put, List.getElem_toArray, List.getElem_cons_zero, List.getElem_cons_succ, List.setIfInBounds_toArray, List.set_cons_zero, List.set_cons_succ])
              refine wpAnyH_take (i := 7) (v := ?v9) rfl (by kernel_rfl) (by kernel_rfl) (by kernel_rfl) (fun _ _ _ h => h) (Or.inl ⟨by rfl, ?hy9⟩) (by assumption) ?rest9
              case hy9 => (intro w hSw; (try dsimp only at hSw); simp only [List.getElem_toArray, List.getElem_cons_zero, List.getElem_cons_succ]; go_simp; (try with_reducible rfl))
              (try simp only [Act.put, List.getElem_toArray, List.getElem_cons_zero, List.getElem_cons_succ, List.setIfInBounds_toArray, List.set_cons_zero, List.set_cons_succ])
              refine wpAnyH_take (i := 8) (v := ?v10) rfl (by kernel_rfl) (by kernel_rfl) (by kernel_rfl) (fun _ _ _ h => h) (Or.inl ⟨by rfl, ?hy10⟩) (by assumption) ?rest10
              case hy10 => (intro w hSw; (try dsimp only at hSw); simp only [List.getElem_toArray, List.getElem_cons_zero, List.getElem_cons_succ]; go_simp; (try with_reducible rfl))
              (try simp only [Act.put, List.getElem_toArray, List.getElem_cons_zero, List.getElem_cons_succ, List.setIfInBounds_toArray, List.set_cons_zero, List.set_cons_succ])
              refine wpAnyH_take (i := 9) (v := ?v11) rfl (by kernel_rfl) (by kernel_rfl) (by kernel_rfl) (fun _ _ _ h => h) (Or.inl ⟨by rfl, ?hy11⟩) (by assumption) ?rest11
              case hy11 => (intro w hSw; (try dsimp only at hSw); simp only [List.getElem_toArray, List.getElem_cons_zero, List.getElem_cons_succ]; go_simp; (try with_reducible rfl))
              (try simp only [Act.put, List.getElem_toArray, List.getElem_cons_zero, List.getElem_cons_succ, List.setIfInBounds_toArray, List.set_cons_zero, List.set_cons_succ])
              refine wpAnyH_take (i := 10) (v := ?v12) rfl (by kernel_rfl) (by kernel_rfl) (by kernel_rfl) (fun _ _ _ h => h) (Or.inl ⟨by rfl, ?hy12⟩) (by assumption) ?rest12
              case hy12 => (intro w hSw; (try dsimp only at hSw); simp only [List.getElem_toArray, List.getElem_cons_zero, List.getElem_cons_succ]; go_simp; (try with_reducible rfl))
              (try simp only [Act.put, List.getElem_toArray, List.getElem_cons_zero, List.getElem_cons_succ, List.setIfInBounds_toArray, List.set_cons_zero, List.set_cons_succ])
              refine wpAnyH_take (i := 11) (v := ?v13) rfl (by kernel_rfl) (by kernel_rfl) (by kernel_rfl) (fun _ _ _ h => h) (Or.inl ⟨by rfl, ?hy13⟩) (by assumption) ?rest13
              case hy13 => (intro w hSw; (try dsimp only at hSw); simp only [List.getElem_toArray, List.getElem_cons_zero, List.getElem_cons_succ]; go_simp; (try with_reducible rfl))
              (try simp only [Act.put, List.getElem_toArray, List.getElem_cons_zero, List.getElem_cons_succ, List.setIfInBounds_toArray, List.set_cons_zero, List.set_cons_succ])
              refine wpAnyH_take (i := 12) (v := ?v14) rfl (by kernel_rfl) (by kernel_rfl) (by kernel_rfl) (fun _ _ _ h => h) (Or.inl ⟨by rfl, ?hy14⟩) (by assumption) ?rest14
              case hy14 => (intro w hSw; (try dsimp only at hSw); simp only [List.getElem_toArray, List.getElem_cons_zero, List.getElem_cons_succ]; go_simp; (try with_reducible rfl))
              (try simp only [Act.put, List.getElem_toArray, List.getElem_cons_zero, List.getElem_cons_succ, List.setIfInBounds_toArray, List.set_cons_zero, List.set_cons_succ])
              refine wpAnyH_ready (rs := [13]) (by kernel_rfl) (by simp) ?_
              refine AllReadyH.cons rfl (fun KK hK => ?_) AllReadyH.nil
              simp only [List.getElem_toArray, List.getElem_cons_zero, List.getElem_cons_succ]
              have cv := RZ.cell aM
              have cf := RZ.frozen a
              rw [if_pos rfl] at cv
              go_simp
              clear cv cf
              obtain ⟨XE, hXE⟩ : ∃ W, ZV.setCell ⟨G2, a, none⟩ (.int .i64 y) = W := ⟨_, rfl⟩
              have o1 : Out G2 (G2 + 1) ZV XE := by rw [← hXE]; exact (Out.refl _ _ _).setCell (p := ⟨G2, a, none⟩) (.inl ⟨Nat.le_refl _, Nat.lt_succ_self _⟩) _
              have FX := lk_row2 RZ HRq.out.2.2.1 HRq.out.2.2.2
              rw [hXE] at FX
              rw [hXE]
              clear hXE
              refine hK.out _ _ ?hS15 (fun hHeld2 => ?rest15)
              case hS15 => exact ⟨o1.cell hHeld.1 (.inr hgg), o1.cell hHeld.2 (.inr hgg)⟩
              clear hK KK
              (try clear hHeld)
              have hHeld := hHeld2
              clear hHeld2
              (try simp only [Act.put, List.getElem_toArray, List.getElem_cons_zero, List.getElem_cons_succ, List.setIfInBounds_toArray, List.set_cons_zero, List.set_cons_succ])
              refine wpAnyH_done (by kernel_rfl) ?_ _
              clear hHeld
              have FXh := hid_mk FX
              have OXh := hid_mk ((OV.trans (OZV.any _ _)).trans o1)
              clear FX OV OZV o1 RV RZ e0 e1
              go_wp2_with fail
              exact ⟨⟨i + 1, by rw [show ((i + 1 : Nat) : Int) = (i5 : Int) from by omega], by omega, FXh.out, HRq.out.2.1.trans OXh.out⟩, by simp [intOf] <;> omega⟩
            · have i3 : ¬ ((i : Int) + 1 < (m : Int)) := by omega
              have hlv : linkV (nf N (keepSp N st ps) (c : Int) (a + 1)) = -4 := by
                rw [hnx, HL.out.1, List.getElem?_eq_none (by have := HL.out.2.1; omega)]
                exact link_small (by decide) (by decide)
              have HRq := hid_mk (And.intro r1 (And.intro r2 (And.intro hxs hlv)))
              clear r1 r2 hxs hlv hnx hx g1 g2 g3 a1 a2
              go_wp2_with fail
              have o9 : Out G2 (G2 + 1) wr (wr.setCell ⟨G2, a, none⟩ (.int .i64 (-4))) := (Out.refl _ _ _).setCell (p := ⟨G2, a, none⟩) (.inl ⟨Nat.le_refl _, Nat.lt_succ_self _⟩) _
              exact ⟨⟨i + 1, by congr 1, by omega, lk_row HRq.out.1 HRq.out.2.2.1 HRq.out.2.2.2, HRq.out.2.1.trans o9⟩, by simp [intOf] <;> omega⟩
          · have e : i = m := by omega
            subst e
            have HRq := hid_mk (And.intro r1 r2)
            clear r1 r2
            go_wp2_with fail
            refine ⟨⟨c + 1, by congr 1, by omega, HRq.out.1.congr fun j hj => ?_, (HRd.out.2.trans (HL.out.2.2.2.any _ _)).trans HRq.out.2⟩, by simp [intOf] <;> omega⟩
            have := lk_end (n := N) (st := keepSp N st ps) c (j := j) (by omega)
            rw [HL.out.1, HL.out.2.1] at this
            rw [this]
      · have e : c = 8 := by omega
        subst e
        have hb8 := HB8.out
        have hz8 := HZ8.out
        have hsz := r2.size
        have hWq := HV8.out.1.kept r2 (.inl (by omega))
        have c0 := hWq.cells.1
        have hmk2 := run_make_row' (P := Tryd.prog) 29 4 (.bool false) 1 Tryd.underlying29 (by kernel_rfl) rfl .i64 .i64 N (by omega) (by omega)
        have HRc := hid_mk (And.intro r1 (And.intro r2 (And.intro hWq (HS8.out.2.2.1.kept r2 (.inl (by omega)) (.inl (by omega))))))
        have HRo9 := hid_mk (HRo8.out.kept r2 (.inl (by omega)))
        have HWas9 := hid_mk (fun j (hj : j < M) => r2.cell (HWas8.out j hj) (.inl (by show gw < G2; omega)))
        have HSzr : Hid (G2 < wr.heap.size) := by show _ < _; omega
        have HO9 := hid_mk (HO8.out.past r2 (by omega))
        clear r1 r2 hWq hb8 hz8 hsz HWf HS8 HV8 HRo8 HWas8 HO8 HZ8 hc cb
        go_wp2_with fail
        obtain ⟨W10, hW10⟩ : ∃ W, wr.alloc (.cells (madeCells #[.bool false] N) 4) = W := ⟨_, rfl⟩
        obtain ⟨G3, hG3⟩ : ∃ G, wr.heap.size = G := ⟨_, rfl⟩
        have o10 : Out 0 0 wr W10 := by rw [← hW10]; exact (Out.refl 0 0 wr).alloc _
        have HU : Hid (Row W10 G3 4 N (fun p => .bool (usP l2 0 p))) := by
          rw [← hW10, ← hG3]
          exact ⟨_, heap_alloc_new _ _, by simp [madeCells], fun j hj => made_b hj⟩
        have HLk := hid_mk (HRc.out.1.kept o10 (.inr (Nat.zero_le _)))
        have HOn := hid_mk (HRo9.out.kept o10 (.inr (Nat.zero_le _)))
        have HWs := hid_mk (fun j (hj : j < M) => o10.cell (HWas9.out j hj) (.inr (Nat.zero_le _)))
        have HWA := hid_mk (HRc.out.2.2.1.kept o10 (.inr (Nat.zero_le _)))
        have HSp := hid_mk (HRc.out.2.2.2.quiet o10)
        have HO10 := hid_mk (HO9.out.trans o10)
        have HBn : Hid (G2 < G3 ∧ G1 < G3 ∧ gw < G3 ∧ b < G3 ∧ hi ≤ G3 ∧ 4 ≤ G3 ∧ w.heap.size ≤ G3) := by
          have a1 := HB8.out
          have a2 := HSzr.out
          show _ ∧ _
          omega
        rw [hW10]
        (try rw [hG3])
        clear hW10 hG3 o10 c0 hmk2 HRc HRo9 HWas9 HO9 HSzr HB8
        go_loopw [15] (fun u wq => ∃ j : Nat, u = .int .i64 (j : Int) ∧ j ≤ M ∧ Row wq G3 4 N (fun p => .bool (usP l2 j p)) ∧ Out G3 (G3 + 1) W10 wq) (fun u _ => M - (intOf u).toNat)
        case atStart => exact ⟨0, rfl, Nat.zero_le _, HU.out, Out.refl _ _ _⟩
        case round =>
          clear HU
          obtain ⟨j, rfl, jb, r1, r2⟩ := hrel
          have j0 : (0 : Int) ≤ (j : Int) := by omega
          have hbn := HBn.out
          have hWq := HWA.out.kept r2 (.inl (by omega))
          have c0 := hWq.cells.1
          have c1 := hWq.cells.2.1
          by_cases hj : j < M
          · have j1 : (j : Int) < (M : Int) := by omega
            have jN : j < 64 * N := by omega
            obtain ⟨x, hx⟩ : ∃ x, (keepSp N st ps).W j = x := ⟨_, rfl⟩
            have hpk := peek_at (HSp.out.kept r2 (.inl (by omega)) (.inl (by omega))).1 jN
            rw [hx] at hpk
            have HPk := hid_mk hpk
            obtain ⟨q, hq⟩ : ∃ q, j / 64 = q := ⟨_, rfl⟩
            have q1 : (j : Int) / 64 = (q : Int) := by omega
            have q2 : (0 : Int) ≤ (q : Int) := by omega
            have hqN : q < N := by omega
            have q3 : (q : Int) < (N : Int) := by omega
            obtain ⟨t, ht⟩ : ∃ t, owTo l2 l2.length j = t := ⟨_, rfl⟩
            have d0 := r2.cell (HOn.out.cell hj) (.inl (by show G1 < G3; omega))
            rw [ht] at d0
            have d1 := r2.cell (HWs.out j hj) (.inl (by show gw < G3; omega))
            have d2 := r2.cell (HLk.out.cell hj) (.inl (by show G2 < G3; omega))
            have d3 := r1.cell hqN
            have d4 := r1.frozen q
            obtain ⟨u0, hu0⟩ : ∃ u0, usP l2 j q = u0 := ⟨_, rfl⟩
            rw [hu0] at d3
            have HRj := hid_mk (And.intro r1 (And.intro r2 (And.intro hq (And.intro hu0 ht))))
            clear r1 r2 hq hu0 hpk hWq
            go_wp2_with fail
            refine HPk.out.mono ?_
            rintro e wx ⟨rfl, hwx⟩
            rw [hwx]
            clear hwx wx HPk c1
            by_cases ht0 : 0 ≤ t
            · have hin := kept_in HI0.out HOb.out jN (by rw [ht]; exact ht0)
              rw [hx] at hin
              rw [← hin] at d1
              have t1 : ¬ t < 0 := by omega
              clear hin ht hx hbn jN
              cases u0 with
              | true =>
                go_wp2_with fail
                have o9 : Out G3 (G3 + 1) wr (wr.setCell ⟨G3, q, none⟩ (.bool true)) := (Out.refl _ _ _).setCell (p := ⟨G3, q, none⟩) (.inl ⟨Nat.le_refl _, Nat.lt_succ_self _⟩) _
                exact ⟨⟨j + 1, by congr 1, by omega, us_row HRj.out.1 HRj.out.2.2.1 (by rw [HRj.out.2.2.2.1, HRj.out.2.2.2.2]; simp; try omega), HRj.out.2.1.trans o9⟩, by simp [intOf] <;> omega⟩
              | false =>
                go_wp2_with fail
                have o9 : Out G3 (G3 + 1) wr (wr.setCell ⟨G3, q, none⟩ (.bool true)) := (Out.refl _ _ _).setCell (p := ⟨G3, q, none⟩) (.inl ⟨Nat.le_refl _, Nat.lt_succ_self _⟩) _
                exact ⟨⟨j + 1, by congr 1, by omega, us_row HRj.out.1 HRj.out.2.2.1 (by rw [HRj.out.2.2.2.1, HRj.out.2.2.2.2]; simp; try omega), HRj.out.2.1.trans o9⟩, by simp [intOf] <;> omega⟩
            · have hout := kept_out HI0.out HOb.out jN (by rw [ht]; omega)
              rw [hx] at hout
              rw [← hout] at d2
              have t1 : t < 0 := by omega
              clear hout ht hx hbn jN
              cases u0 with
              | true =>
                go_wp2_with fail
                have o9 : Out G3 (G3 + 1) wr (wr.setCell ⟨G3, q, none⟩ (.bool true)) := (Out.refl _ _ _).setCell (p := ⟨G3, q, none⟩) (.inl ⟨Nat.le_refl _, Nat.lt_succ_self _⟩) _
                exact ⟨⟨j + 1, by congr 1, by omega, us_row HRj.out.1 HRj.out.2.2.1 (by rw [HRj.out.2.2.2.1, HRj.out.2.2.2.2]; simp; try omega), HRj.out.2.1.trans o9⟩, by simp [intOf] <;> omega⟩
              | false =>
                go_wp2_with fail
                have o9 : Out G3 (G3 + 1) wr (wr.setCell ⟨G3, q, none⟩ (.bool false)) := (Out.refl _ _ _).setCell (p := ⟨G3, q, none⟩) (.inl ⟨Nat.le_refl _, Nat.lt_succ_self _⟩) _
                exact ⟨⟨j + 1, by congr 1, by omega, us_row HRj.out.1 HRj.out.2.2.1 (by rw [HRj.out.2.2.2.1, HRj.out.2.2.2.2]; simp; try omega), HRj.out.2.1.trans o9⟩, by simp [intOf] <;> omega⟩
          · have e : j = M := by omega
            subst e
            have HDq := hid_mk (dumpF (HSp.out.kept r2 (.inl (by omega)) (.inl (by omega))))
            have HRm := hid_mk (And.intro r1 (And.intro hWq (And.intro (HSp.out.kept r2 (.inl (by omega)) (.inl (by omega))) (And.intro (HO10.out.past r2 (by omega)) r1.lt))))
            clear r1 r2 hWq c0 hbn hj jb
            have c0 := HRm.out.2.1.cells.1
            go_wp2_with fail
            refine HDq.out.mono ?_
            rintro e w11 ⟨ze2, gw2, gp2, zd0, zd1, zd2, k0, k1, k2, k3, k4, k5, k6, k7, rfl, hg1, hg2, hg3, hg4, hw4, hp4, ho11⟩
            obtain ⟨q, hq⟩ : ∃ q, (objsTo (rawOf N (keepSp N st ps)) (64 * N)).length = q := ⟨_, rfl⟩
            rw [hq, hM]
            have H11 := hid_mk (And.intro hp4 ho11)
            clear hg1 hg2 hg3 hg4 hw4 hp4 ho11 HDq c1 c0 hq
            go_wp2_with fail
            obtain ⟨W12, hW12⟩ : ∃ W, w11.alloc (.cells #[.slice (some ⟨gw2, 0, none⟩) j zd0, .slice (some ⟨gp2, 0, none⟩) N zd1, .slice ze2 q zd2, .int .i64 k0, .int .i64 k1, .int .i64 k2, .int .i64 k3, .int .i64 k4, .int .i64 k5, .int .i64 k6, .int .i64 k7, .int .i64 (keepSp N st ps).last] 46) = W := ⟨_, rfl⟩
            obtain ⟨D2, hD2⟩ : ∃ D, w11.heap.size = D := ⟨_, rfl⟩
            have o12 : Out 0 0 w11 W12 := by rw [← hW12]; exact (Out.refl 0 0 w11).alloc _
            have fD : W12.heap[D2]? = some (.cells #[.slice (some ⟨gw2, 0, none⟩) j zd0, .slice (some ⟨gp2, 0, none⟩) N zd1, .slice ze2 q zd2, .int .i64 k0, .int .i64 k1, .int .i64 k2, .int .i64 k3, .int .i64 k4, .int .i64 k5, .int .i64 k6, .int .i64 k7, .int .i64 (keepSp N st ps).last] 46 (0, 0)) := by rw [← hW12, ← hD2]; exact heap_alloc_new _ _
            have HDP : Hid (W12.cell? ⟨D2, 1, none⟩ = some (.slice (some ⟨gp2, 0, none⟩) N zd1)) := by show _ = _; simp [World.cell?, fD]
            have oq := H11.out.2.trans o12
            have HPg := hid_mk (fun p (hp : p < N) => o12.cell (H11.out.1 p 0 hp (by omega)) (.inr (Nat.zero_le _)))
            have HUs := hid_mk (HRm.out.1.kept oq (.inr (Nat.zero_le _)))
            have HWA2 := hid_mk (HRm.out.2.1.kept oq (.inr (Nat.zero_le _)))
            have HSp2 := hid_mk (HRm.out.2.2.1.quiet oq)
            have HO12 := hid_mk (HRm.out.2.2.2.1.trans oq)
            rw [hW12]
            (try rw [hD2])
            clear hW12 hD2 o12 fD oq H11 HRm
            go_loopw [19] (fun u wq => ∃ p : Nat, u = .int .i64 (p : Int) ∧ p ≤ N ∧ Out 0 0 W12 wq) (fun u _ => N - (intOf u).toNat)
            case atStart => exact ⟨0, rfl, Nat.zero_le _, Out.refl _ _ _⟩
            case round =>
              obtain ⟨p, rfl, pb, ro⟩ := hrel
              have p0 : (0 : Int) ≤ (p : Int) := by omega
              have c0 := ro.cell HWA2.out.cells.1 (.inr (Nat.zero_le _))
              have c1 := ro.cell HWA2.out.cells.2.1 (.inr (Nat.zero_le _))
              by_cases hp : p < N
              · have p1 : (p : Int) < (N : Int) := by omega
                have dP := ro.cell HDP.out (.inr (Nat.zero_le _))
                have dK := ro.cell (HPg.out p hp) (.inr (Nat.zero_le _))
                have dU := ro.cell (HUs.out.cell hp) (.inr (Nat.zero_le _))
                have hus := us_all HI0.out HOb.out hp
                rw [hM] at hus
                obtain ⟨kd, hkd⟩ : ∃ kd, ((keepSp N st ps).S p).1 = kd := ⟨_, rfl⟩
                rw [fP_0, Nat.add_zero, hkd] at dK
                rw [hkd] at hus
                rw [hus] at dU
                have HOp := hid_mk ro
                clear ro hus hkd c1
                by_cases hk0 : kd = 0
                · subst hk0
                  rw [show decide ((0 : Int) ≠ 0) = false from rfl] at dU
                  go_wp2_with fail
                  refine wp_region_held_drew (S := fun w' => w'.cell? ⟨D2, 1, none⟩ = some (.slice (some ⟨gp2, 0, none⟩) N zd1) ∧ w'.cell? ⟨b, 0, none⟩ = some (.int .i64 (N : Int)) ∧ w'.cell? ⟨gp2, p * 3, none⟩ = some (.int .i64 0) ∧ w'.cell? ⟨G3, p, none⟩ = some (.bool false)) (by kernel_rfl) ?hS16 (fun hHeld => ?rest16)
                  case hS16 => exact ⟨dP, c0, dK, dU⟩
                  obtain ⟨ZP, hZ⟩ : ∃ Z, wr.drew = Z := ⟨_, rfl⟩
                  have OZP : Out 0 0 wr ZP := by rw [← hZ]; exact (Out.refl 0 0 wr).drew
                  rw [hZ] at hHeld ⊢
                  clear hZ
                  refine wpAnyH_take (i := 0) (v := ?v17) rfl (by kernel_rfl) (by kernel_rfl) (by kernel_rfl) (fun _ _ _ h => h) (Or.inl ⟨by rfl, ?hy17⟩) (by assumption) ?rest17
                  case hy17 => (intro w hSw; (try dsimp only at hSw); simp only [List.getElem_toArray, List.getElem_cons_zero, List.getElem_cons_succ]; go_simp; (try with_reducible rfl))
                  (try simp only [Act.put, List.getElem_toArray, List.getElem_cons_zero, List.getElem_cons_succ, List.setIfInBounds_toArray, List.set_cons_zero, List.set_cons_succ])
                  refine wpAnyH_take (i := 1) (v := ?v18) rfl (by kernel_rfl) (by kernel_rfl) (by kernel_rfl) (fun _ _ _ h => h) (Or.inl ⟨by rfl, ?hy18⟩) (by assumption) ?rest18
                  case hy18 => (intro w hSw; (try dsimp only at hSw); simp only [List.getElem_toArray, List.getElem_cons_zero, List.getElem_cons_succ]; go_simp; (try with_reducible rfl))
                  (try simp only [Act.put, List.getElem_toArray, List.getElem_cons_zero, List.getElem_cons_succ, List.setIfInBounds_toArray, List.set_cons_zero, List.set_cons_succ])
                  refine wpAnyH_take (i := 2) (v := ?v19) rfl (by kernel_rfl) (by kernel_rfl) (by kernel_rfl) (fun _ _ _ h => h) (Or.inl ⟨by rfl, ?hy19⟩) (by assumption) ?rest19
                  case hy19 => (intro w hSw; (try dsimp only at hSw); simp only [List.getElem_toArray, List.getElem_cons_zero, List.getElem_cons_succ]; go_simp; (try with_reducible rfl))
                  (try simp only [Act.put, List.getElem_toArray, List.getElem_cons_zero, List.getElem_cons_succ, List.setIfInBounds_toArray, List.set_cons_zero, List.set_cons_succ])
                  refine wpAnyH_take (i := 3) (v := ?v20) rfl (by kernel_rfl) (by kernel_rfl) (by kernel_rfl) (fun _ _ _ h => h) (Or.inl ⟨by rfl, ?hy20⟩) (by assumption) ?rest20
                  case hy20 => (intro w hSw; (try dsimp only at hSw); simp only [List.getElem_toArray, List.getElem_cons_zero, List.getElem_cons_succ]; go_simp; (try with_reducible rfl))
                  (try simp only [Act.put, List.getElem_toArray, List.getElem_cons_zero, List.getElem_cons_succ, List.setIfInBounds_toArray, List.set_cons_zero, List.set_cons_succ])
                  refine wpAnyH_take (i := 4) (v := ?v21) rfl (by kernel_rfl) (by kernel_rfl) (by kernel_rfl) (fun _ _ _ h => h) (Or.inl ⟨by rfl, ?hy21⟩) (by assumption) ?rest21
                  case hy21 => (intro w hSw; (try dsimp only at hSw); simp only [List.getElem_toArray, List.getElem_cons_zero, List.getElem_cons_succ]; go_simp; (try with_reducible rfl))
                  (try simp only [Act.put, List.getElem_toArray, List.getElem_cons_zero, List.getElem_cons_succ, List.setIfInBounds_toArray, List.set_cons_zero, List.set_cons_succ])
                  refine wpAnyH_take (i := 5) (v := ?v22) rfl (by kernel_rfl) (by kernel_rfl) (by kernel_rfl) (fun _ _ _ h => h) (Or.inl ⟨by rfl, ?hy22⟩) (by assumption) ?rest22
                  case hy22 => (intro w hSw; (try dsimp only at hSw); simp only [List.getElem_toArray, List.getElem_cons_zero, List.getElem_cons_succ]; go_simp; (try with_reducible rfl))
                  (try simp only [Act.put, List.getElem_toArray, List.getElem_cons_zero, List.getElem_cons_succ, List.setIfInBounds_toArray, List.set_cons_zero, List.set_cons_succ])
                  refine wpAnyH_take (i := 6) (v := ?v23) rfl (by kernel_rfl) (by kernel_rfl) (by kernel_rfl) (fun _ _ _ h => h) (Or.inl ⟨by rfl, ?hy23⟩) (by assumption) ?rest23
                  case hy23 => (intro w hSw; (try dsimp only at hSw); simp only [List.getElem_toArray, List.getElem_cons_zero, List.getElem_cons_succ]; go_simp; (try with_reducible rfl))
                  (try simp only [Act.put, List.getElem_toArray, List.getElem_cons_zero, List.getElem_cons_succ, List.setIfInBounds_toArray, List.set_cons_zero, List.set_cons_succ])
                  refine wpAnyH_take (i := 7) (v := ?v24) rfl (by kernel_rfl) (by kernel_rfl) (by kernel_rfl) (fun _ _ _ h => h) (Or.inl ⟨by rfl, ?hy24⟩) (by assumption) ?rest24
                  case hy24 => (intro w hSw; (try dsimp only at hSw); simp only [List.getElem_toArray, List.getElem_cons_zero, List.getElem_cons_succ]; go_simp; (try with_reducible rfl))
                  (try simp only [Act.put, List.getElem_toArray, List.getElem_cons_zero, List.getElem_cons_succ, List.setIfInBounds_toArray, List.set_cons_zero, List.set_cons_succ])
                  refine wpAnyH_take (i := 8) (v := ?v25) rfl (by kernel_rfl) (by kernel_rfl) (by kernel_rfl) (fun _ _ _ h => h) (Or.inl ⟨by rfl, ?hy25⟩) (by assumption) ?rest25
                  case hy25 => (intro w hSw; (try dsimp only at hSw); simp only [List.getElem_toArray, List.getElem_cons_zero, List.getElem_cons_succ]; go_simp; (try with_reducible rfl))
                  (try simp only [Act.put, List.getElem_toArray, List.getElem_cons_zero, List.getElem_cons_succ, List.setIfInBounds_toArray, List.set_cons_zero, List.set_cons_succ])
                  refine wpAnyH_take (i := 9) (v := ?v26) rfl (by kernel_rfl) (by kernel_rfl) (by kernel_rfl) (fun _ _ _ h => h) (Or.inl ⟨by rfl, ?hy26⟩) (by assumption) ?rest26
                  case hy26 => (intro w hSw; (try dsimp only at hSw); simp only [List.getElem_toArray, List.getElem_cons_zero, List.getElem_cons_succ]; go_simp; (try with_reducible rfl))
                  (try simp only [Act.put, List.getElem_toArray, List.getElem_cons_zero, List.getElem_cons_succ, List.setIfInBounds_toArray, List.set_cons_zero, List.set_cons_succ])
                  refine wpAnyH_take (i := 10) (v := ?v27) rfl (by kernel_rfl) (by kernel_rfl) (by kernel_rfl) (fun _ _ _ h => h) (Or.inl ⟨by rfl, ?hy27⟩) (by assumption) ?rest27
                  case hy27 => (intro w hSw; (try dsimp only at hSw); simp only [List.getElem_toArray, List.getElem_cons_zero, List.getElem_cons_succ]; go_simp; (try with_reducible rfl))
                  (try simp only [Act.put, List.getElem_toArray, List.getElem_cons_zero, List.getElem_cons_succ, List.setIfInBounds_toArray, List.set_cons_zero, List.set_cons_succ])
                  refine wpAnyH_take (i := 11) (v := ?v28) rfl (by kernel_rfl) (by kernel_rfl) (by kernel_rfl) (fun _ _ _ h => h) (Or.inl ⟨by rfl, ?hy28⟩) (by assumption) ?rest28
                  case hy28 => (intro w hSw; (try dsimp only at hSw); simp only [List.getElem_toArray, List.getElem_cons_zero, List.getElem_cons_succ]; go_simp; (try with_reducible rfl))
                  (try simp only [Act.put, List.getElem_toArray, List.getElem_cons_zero, List.getElem_cons_succ, List.setIfInBounds_toArray, List.set_cons_zero, List.set_cons_succ])
                  refine wpAnyH_take (i := 12) (v := ?v29) rfl (by kernel_rfl) (by kernel_rfl) (by kernel_rfl) (fun _ _ _ h => h) (Or.inl ⟨by rfl, ?hy29⟩) (by assumption) ?rest29
                  case hy29 => (intro w hSw; (try dsimp only at hSw); simp only [List.getElem_toArray, List.getElem_cons_zero, List.getElem_cons_succ]; go_simp; (try with_reducible rfl))
                  (try simp only [Act.put, List.getElem_toArray, List.getElem_cons_zero, List.getElem_cons_succ, List.setIfInBounds_toArray, List.set_cons_zero, List.set_cons_succ])
                  refine wpAnyH_take (i := 13) (v := ?v30) rfl (by kernel_rfl) (by kernel_rfl) (by kernel_rfl) (fun _ _ _ h => h) (Or.inl ⟨by rfl, ?hy30⟩) (by assumption) ?rest30
                  case hy30 => (intro w hSw; (try dsimp only at hSw); simp only [List.getElem_toArray, List.getElem_cons_zero, List.getElem_cons_succ]; go_simp; (try with_reducible rfl))
                  (try simp only [Act.put, List.getElem_toArray, List.getElem_cons_zero, List.getElem_cons_succ, List.setIfInBounds_toArray, List.set_cons_zero, List.set_cons_succ])
                  refine wpAnyH_take (i := 14) (v := ?v31) rfl (by kernel_rfl) (by kernel_rfl) (by kernel_rfl) (fun _ _ _ h => h) (Or.inl ⟨by rfl, ?hy31⟩) (by assumption) ?rest31
                  case hy31 => (intro w hSw; (try dsimp only at hSw); simp only [List.getElem_toArray, List.getElem_cons_zero, List.getElem_cons_succ]; go_simp; (try with_reducible rfl))
                  (try simp only [Act.put, List.getElem_toArray, List.getElem_cons_zero, List.getElem_cons_succ, List.setIfInBounds_toArray, List.set_cons_zero, List.set_cons_succ])
                  refine wpAnyH_take (i := 15) (v := ?v32) rfl (by kernel_rfl) (by kernel_rfl) (by kernel_rfl) (fun _ _ _ h => h) (Or.inl ⟨by rfl, ?hy32⟩) (by assumption) ?rest32
                  case hy32 => (intro w hSw; (try dsimp only at hSw); simp only [List.getElem_toArray, List.getElem_cons_zero, List.getElem_cons_succ]; go_simp; (try with_reducible rfl))
                  (try simp only [Act.put, List.getElem_toArray, List.getElem_cons_zero, List.getElem_cons_succ, List.setIfInBounds_toArray, List.set_cons_zero, List.set_cons_succ])
                  refine wpAnyH_take (i := 16) (v := ?v33) rfl (by kernel_rfl) (by kernel_rfl) (by kernel_rfl) (fun _ _ _ h => h) (Or.inl ⟨by rfl, ?hy33⟩) (by assumption) ?rest33
                  case hy33 => (intro w hSw; (try dsimp only at hSw); simp only [List.getElem_toArray, List.getElem_cons_zero, List.getElem_cons_succ]; go_simp; (try with_reducible rfl))
                  (try simp only [Act.put, List.getElem_toArray, List.getElem_cons_zero, List.getElem_cons_succ, List.setIfInBounds_toArray, List.set_cons_zero, List.set_cons_succ])
                  refine wpAnyH_take (i := 17) (v := ?v34) rfl (by kernel_rfl) (by kernel_rfl) (by kernel_rfl) (fun _ _ _ h => h) (Or.inl ⟨by rfl, ?hy34⟩) (by assumption) ?rest34
                  case hy34 => (intro w hSw; (try dsimp only at hSw); simp only [List.getElem_toArray, List.getElem_cons_zero, List.getElem_cons_succ]; go_simp; (try with_reducible rfl))
                  (try simp only [Act.put, List.getElem_toArray, List.getElem_cons_zero, List.getElem_cons_succ, List.setIfInBounds_toArray, List.set_cons_zero, List.set_cons_succ])
                  refine wpAnyH_take (i := 18) (v := ?v35) rfl (by kernel_rfl) (by kernel_rfl) (by kernel_rfl) (fun _ _ _ h => h) (Or.inl ⟨by rfl, ?hy35⟩) (by assumption) ?rest35
                  case hy35 => (intro w hSw; (try dsimp only at hSw); simp only [List.getElem_toArray, List.getElem_cons_zero, List.getElem_cons_succ]; go_simp; (try with_reducible rfl))
                  (try simp only [Act.put, List.getElem_toArray, List.getElem_cons_zero, List.getElem_cons_succ, List.setIfInBounds_toArray, List.set_cons_zero, List.set_cons_succ])
                  refine wpAnyH_take (i := 19) (v := ?v36) rfl (by kernel_rfl) (by kernel_rfl) (by kernel_rfl) (fun _ _ _ h => h) (Or.inl ⟨by rfl, ?hy36⟩) (by assumption) ?rest36
                  case hy36 => (intro w hSw; (try dsimp only at hSw); simp only [List.getElem_toArray, List.getElem_cons_zero, List.getElem_cons_succ]; go_simp; (try with_reducible rfl))
                  (try simp only [Act.put, List.getElem_toArray, List.getElem_cons_zero, List.getElem_cons_succ, List.setIfInBounds_toArray, List.set_cons_zero, List.set_cons_succ])
                  refine wpAnyH_take (i := 20) (v := ?v37) rfl (by kernel_rfl) (by kernel_rfl) (by kernel_rfl) (fun _ _ _ h => h) (Or.inl ⟨by rfl, ?hy37⟩) (by assumption) ?rest37
                  case hy37 => (intro w hSw; (try dsimp only at hSw); simp only [List.getElem_toArray, List.getElem_cons_zero, List.getElem_cons_succ]; go_simp; (try with_reducible rfl))
                  (try simp only [Act.put, List.getElem_toArray, List.getElem_cons_zero, List.getElem_cons_succ, List.setIfInBounds_toArray, List.set_cons_zero, List.set_cons_succ])
                  refine wpAnyH_take (i := 21) (v := ?v38) rfl (by kernel_rfl) (by kernel_rfl) (by kernel_rfl) (fun _ _ _ h => h) (Or.inl ⟨by rfl, ?hy38⟩) (by assumption) ?rest38
                  case hy38 => (intro w hSw; (try dsimp only at hSw); simp only [List.getElem_toArray, List.getElem_cons_zero, List.getElem_cons_succ]; go_simp; (try with_reducible rfl))
                  (try simp only [Act.put, List.getElem_toArray, List.getElem_cons_zero, List.getElem_cons_succ, List.setIfInBounds_toArray, List.set_cons_zero, List.set_cons_succ])
                  refine wpAnyH_done (by kernel_rfl) ?_ _
                  clear hHeld
                  have HZP := hid_mk OZP
                  clear OZP c0 dP dK dU
                  go_wp2_with fail
                  exact ⟨⟨p + 1, by congr 1, by omega, HOp.out.trans HZP.out⟩, by simp [intOf] <;> omega⟩
                · have hkb : (kd != 0) = true := by simpa using hk0
                  rw [show decide (kd ≠ 0) = true from decide_eq_true hk0] at dU
                  go_wp2_with fail
                  refine wp_region_held_drew (S := fun w' => w'.cell? ⟨D2, 1, none⟩ = some (.slice (some ⟨gp2, 0, none⟩) N zd1) ∧ w'.cell? ⟨b, 0, none⟩ = some (.int .i64 (N : Int)) ∧ w'.cell? ⟨gp2, p * 3, none⟩ = some (.int .i64 kd) ∧ w'.cell? ⟨G3, p, none⟩ = some (.bool true)) (by kernel_rfl) ?hS39 (fun hHeld => ?rest39)
                  case hS39 => exact ⟨dP, c0, dK, dU⟩
                  obtain ⟨ZP, hZ⟩ : ∃ Z, wr.drew = Z := ⟨_, rfl⟩
                  have OZP : Out 0 0 wr ZP := by rw [← hZ]; exact (Out.refl 0 0 wr).drew
                  rw [hZ] at hHeld ⊢
                  clear hZ
                  refine wpAnyH_take (i := 0) (v := ?v40) rfl (by kernel_rfl) (by kernel_rfl) (by kernel_rfl) (fun _ _ _ h => h) (Or.inl ⟨by rfl, ?hy40⟩) (by assumption) ?rest40
                  case hy40 => (intro w hSw; (try dsimp only at hSw); simp only [List.getElem_toArray, List.getElem_cons_zero, List.getElem_cons_succ]; go_simp; (try with_reducible rfl))
                  (try simp only [Act.put, List.getElem_toArray, List.getElem_cons_zero, List.getElem_cons_succ, List.setIfInBounds_toArray, List.set_cons_zero, List.set_cons_succ])
                  refine wpAnyH_take (i := 1) (v := ?v41) rfl (by kernel_rfl) (by kernel_rfl) (by kernel_rfl) (fun _ _ _ h => h) (Or.inl ⟨by rfl, ?hy41⟩) (by assumption) ?rest41
                  case hy41 => (intro w hSw; (try dsimp only at hSw); simp only [List.getElem_toArray, List.getElem_cons_zero, List.getElem_cons_succ]; go_simp; (try with_reducible rfl))
                  (try simp only [Act.put, List.getElem_toArray, List.getElem_cons_zero, List.getElem_cons_succ, List.setIfInBounds_toArray, List.set_cons_zero, List.set_cons_succ])
                  refine wpAnyH_take (i := 2) (v := ?v42) rfl (by kernel_rfl) (by kernel_rfl) (by kernel_rfl) (fun _ _ _ h => h) (Or.inl ⟨by rfl, ?hy42⟩) (by assumption) ?rest42
                  case hy42 => (intro w hSw; (try dsimp only at hSw); simp only [List.getElem_toArray, List.getElem_cons_zero, List.getElem_cons_succ]; go_simp; (try with_reducible rfl))
                  (try simp only [Act.put, List.getElem_toArray, List.getElem_cons_zero, List.getElem_cons_succ, List.setIfInBounds_toArray, List.set_cons_zero, List.set_cons_succ])
                  refine wpAnyH_take (i := 3) (v := ?v43) rfl (by kernel_rfl) (by kernel_rfl) (by kernel_rfl) (fun _ _ _ h => h) (Or.inl ⟨by rfl, ?hy43⟩) (by assumption) ?rest43
                  case hy43 => (intro w hSw; (try dsimp only at hSw); simp only [List.getElem_toArray, List.getElem_cons_zero, List.getElem_cons_succ]; go_simp; (try with_reducible rfl))
                  (try simp only [Act.put, List.getElem_toArray, List.getElem_cons_zero, List.getElem_cons_succ, List.setIfInBounds_toArray, List.set_cons_zero, List.set_cons_succ])
                  refine wpAnyH_take (i := 4) (v := ?v44) rfl (by kernel_rfl) (by kernel_rfl) (by kernel_rfl) (fun _ _ _ h => h) (Or.inl ⟨by rfl, ?hy44⟩) (by assumption) ?rest44
                  case hy44 => (intro w hSw; (try dsimp only at hSw); simp only [List.getElem_toArray, List.getElem_cons_zero, List.getElem_cons_succ]; go_simp; (try with_reducible rfl))
                  (try simp only [Act.put, List.getElem_toArray, List.getElem_cons_zero, List.getElem_cons_succ, List.setIfInBounds_toArray, List.set_cons_zero, List.set_cons_succ])
                  refine wpAnyH_take (i := 5) (v := ?v45) rfl (by kernel_rfl) (by kernel_rfl) (by kernel_rfl) (fun _ _ _ h => h) (Or.inl ⟨by rfl, ?hy45⟩) (by assumption) ?rest45
                  case hy45 => (intro w hSw; (try dsimp only at hSw); simp only [List.getElem_toArray, List.getElem_cons_zero, List.getElem_cons_succ]; go_simp; (try with_reducible rfl))
                  (try simp only [Act.put, List.getElem_toArray, List.getElem_cons_zero, List.getElem_cons_succ, List.setIfInBounds_toArray, List.set_cons_zero, List.set_cons_succ])
                  refine wpAnyH_take (i := 6) (v := ?v46) rfl (by kernel_rfl) (by kernel_rfl) (by kernel_rfl) (fun _ _ _ h => h) (Or.inl ⟨by rfl, ?hy46⟩) (by assumption) ?rest46
                  case hy46 => (intro w hSw; (try dsimp only at hSw); simp only [List.getElem_toArray, List.getElem_cons_zero, List.getElem_cons_succ]; go_simp; (try with_reducible rfl))
                  (try simp only [Act.put, List.getElem_toArray, List.getElem_cons_zero, List.getElem_cons_succ, List.setIfInBounds_toArray, List.set_cons_zero, List.set_cons_succ])
                  refine wpAnyH_take (i := 7) (v := ?v47) rfl (by kernel_rfl) (by kernel_rfl) (by kernel_rfl) (fun _ _ _ h => h) (Or.inl ⟨by rfl, ?hy47⟩) (by assumption) ?rest47
                  case hy47 => (intro w hSw; (try dsimp only at hSw); simp only [List.getElem_toArray, List.getElem_cons_zero, List.getElem_cons_succ]; go_simp; (try with_reducible rfl))
                  (try simp only [Act.put, List.getElem_toArray, List.getElem_cons_zero, List.getElem_cons_succ, List.setIfInBounds_toArray, List.set_cons_zero, List.set_cons_succ])
                  refine wpAnyH_take (i := 8) (v := ?v48) rfl (by kernel_rfl) (by kernel_rfl) (by kernel_rfl) (fun _ _ _ h => h) (Or.inl ⟨by rfl, ?hy48⟩) (by assumption) ?rest48
                  case hy48 => (intro w hSw; (try dsimp only at hSw); simp only [List.getElem_toArray, List.getElem_cons_zero, List.getElem_cons_succ]; go_simp; (try with_reducible rfl))
                  (try simp only [Act.put, List.getElem_toArray, List.getElem_cons_zero, List.getElem_cons_succ, List.setIfInBounds_toArray, List.set_cons_zero, List.set_cons_succ])
                  refine wpAnyH_take (i := 9) (v := ?v49) rfl (by kernel_rfl) (by kernel_rfl) (by kernel_rfl) (fun _ _ _ h => h) (Or.inl ⟨by rfl, ?hy49⟩) (by assumption) ?rest49
                  case hy49 => (intro w hSw; (try dsimp only at hSw); simp only [List.getElem_toArray, List.getElem_cons_zero, List.getElem_cons_succ]; go_simp; (try with_reducible rfl))
                  (try simp only [Act.put, List.getElem_toArray, List.getElem_cons_zero, List.getElem_cons_succ, List.setIfInBounds_toArray, List.set_cons_zero, List.set_cons_succ])
                  refine wpAnyH_take (i := 10) (v := ?v50) rfl (by kernel_rfl) (by kernel_rfl) (by kernel_rfl) (fun _ _ _ h => h) (Or.inl ⟨by rfl, ?hy50⟩) (by assumption) ?rest50
                  case hy50 => (intro w hSw; (try dsimp only at hSw); simp only [List.getElem_toArray, List.getElem_cons_zero, List.getElem_cons_succ]; go_simp; (try with_reducible rfl))
                  (try simp only [Act.put, List.getElem_toArray, List.getElem_cons_zero, List.getElem_cons_succ, List.setIfInBounds_toArray, List.set_cons_zero, List.set_cons_succ])
                  refine wpAnyH_take (i := 11) (v := ?v51) rfl (by kernel_rfl) (by kernel_rfl) (by kernel_rfl) (fun _ _ _ h => h) (Or.inl ⟨by rfl, ?hy51⟩) (by assumption) ?rest51
                  case hy51 => (intro w hSw; (try dsimp only at hSw); simp only [List.getElem_toArray, List.getElem_cons_zero, List.getElem_cons_succ]; go_simp; (try with_reducible rfl))
                  (try simp only [Act.put, List.getElem_toArray, List.getElem_cons_zero, List.getElem_cons_succ, List.setIfInBounds_toArray, List.set_cons_zero, List.set_cons_succ])
                  refine wpAnyH_take (i := 12) (v := ?v52) rfl (by kernel_rfl) (by kernel_rfl) (by kernel_rfl) (fun _ _ _ h => h) (Or.inl ⟨by rfl, ?hy52⟩) (by assumption) ?rest52
                  case hy52 => (intro w hSw; (try dsimp only at hSw); simp only [List.getElem_toArray, List.getElem_cons_zero, List.getElem_cons_succ]; go_simp; (try with_reducible rfl))
                  (try simp only [Act.put, List.getElem_toArray, List.getElem_cons_zero, List.getElem_cons_succ, List.setIfInBounds_toArray, List.set_cons_zero, List.set_cons_succ])
                  refine wpAnyH_take (i := 13) (v := ?v53) rfl (by kernel_rfl) (by kernel_rfl) (by kernel_rfl) (fun _ _ _ h => h) (Or.inl ⟨by rfl, ?hy53⟩) (by assumption) ?rest53
                  case hy53 => (intro w hSw; (try dsimp only at hSw); simp only [List.getElem_toArray, List.getElem_cons_zero, List.getElem_cons_succ]; go_simp; (try with_reducible rfl))
                  (try simp only [Act.put, List.getElem_toArray, List.getElem_cons_zero, List.getElem_cons_succ, List.setIfInBounds_toArray, List.set_cons_zero, List.set_cons_succ])
                  refine wpAnyH_take (i := 14) (v := ?v54) rfl (by kernel_rfl) (by kernel_rfl) (by kernel_rfl) (fun _ _ _ h => h) (Or.inl ⟨by rfl, ?hy54⟩) (by assumption) ?rest54
                  case hy54 => (intro w hSw; (try dsimp only at hSw); simp only [List.getElem_toArray, List.getElem_cons_zero, List.getElem_cons_succ]; go_simp; (try with_reducible rfl))
                  (try simp only [Act.put, List.getElem_toArray, List.getElem_cons_zero, List.getElem_cons_succ, List.setIfInBounds_toArray, List.set_cons_zero, List.set_cons_succ])
                  refine wpAnyH_take (i := 15) (v := ?v55) rfl (by kernel_rfl) (by kernel_rfl) (by kernel_rfl) (fun _ _ _ h => h) (Or.inl ⟨by rfl, ?hy55⟩) (by assumption) ?rest55
                  case hy55 => (intro w hSw; (try dsimp only at hSw); simp only [List.getElem_toArray, List.getElem_cons_zero, List.getElem_cons_succ]; go_simp; (try with_reducible rfl))
                  (try simp only [Act.put, List.getElem_toArray, List.getElem_cons_zero, List.getElem_cons_succ, List.setIfInBounds_toArray, List.set_cons_zero, List.set_cons_succ])
                  refine wpAnyH_take (i := 16) (v := ?v56) rfl (by kernel_rfl) (by kernel_rfl) (by kernel_rfl) (fun _ _ _ h => h) (Or.inl ⟨by rfl, ?hy56⟩) (by assumption) ?rest56
                  case hy56 => (intro w hSw; (try dsimp only at hSw); simp only [List.getElem_toArray, List.getElem_cons_zero, List.getElem_cons_succ]; go_simp; (try with_reducible rfl))
                  (try simp only [Act.put, List.getElem_toArray, List.getElem_cons_zero, List.getElem_cons_succ, List.setIfInBounds_toArray, List.set_cons_zero, List.set_cons_succ])
                  refine wpAnyH_take (i := 17) (v := ?v57) rfl (by kernel_rfl) (by kernel_rfl) (by kernel_rfl) (fun _ _ _ h => h) (Or.inl ⟨by rfl, ?hy57⟩) (by assumption) ?rest57
                  case hy57 => (intro w hSw; (try dsimp only at hSw); simp only [List.getElem_toArray, List.getElem_cons_zero, List.getElem_cons_succ]; go_simp; (try with_reducible rfl))
                  (try simp only [Act.put, List.getElem_toArray, List.getElem_cons_zero, List.getElem_cons_succ, List.setIfInBounds_toArray, List.set_cons_zero, List.set_cons_succ])
                  refine wpAnyH_take (i := 18) (v := ?v58) rfl (by kernel_rfl) (by kernel_rfl) (by kernel_rfl) (fun _ _ _ h => h) (Or.inl ⟨by rfl, ?hy58⟩) (by assumption) ?rest58
                  case hy58 => (intro w hSw; (try dsimp only at hSw); simp only [List.getElem_toArray, List.getElem_cons_zero, List.getElem_cons_succ]; go_simp; (try with_reducible rfl))
                  (try simp only [Act.put, List.getElem_toArray, List.getElem_cons_zero, List.getElem_cons_succ, List.setIfInBounds_toArray, List.set_cons_zero, List.set_cons_succ])
                  refine wpAnyH_take (i := 19) (v := ?v59) rfl (by kernel_rfl) (by kernel_rfl) (by kernel_rfl) (fun _ _ _ h => h) (Or.inl ⟨by rfl, ?hy59⟩) (by assumption) ?rest59
                  case hy59 => (intro w hSw; (try dsimp only at hSw); simp only [List.getElem_toArray, List.getElem_cons_zero, List.getElem_cons_succ]; go_simp; (try with_reducible rfl))
                  (try simp only [Act.put, List.getElem_toArray, List.getElem_cons_zero, List.getElem_cons_succ, List.setIfInBounds_toArray, List.set_cons_zero, List.set_cons_succ])
                  refine wpAnyH_take (i := 20) (v := ?v60) rfl (by kernel_rfl) (by kernel_rfl) (by kernel_rfl) (fun _ _ _ h => h) (Or.inl ⟨by rfl, ?hy60⟩) (by assumption) ?rest60
                  case hy60 => (intro w hSw; (try dsimp only at hSw); simp only [List.getElem_toArray, List.getElem_cons_zero, List.getElem_cons_succ]; go_simp; (try with_reducible rfl))
                  (try simp only [Act.put, List.getElem_toArray, List.getElem_cons_zero, List.getElem_cons_succ, List.setIfInBounds_toArray, List.set_cons_zero, List.set_cons_succ])
                  refine wpAnyH_take (i := 21) (v := ?v61) rfl (by kernel_rfl) (by kernel_rfl) (by kernel_rfl) (fun _ _ _ h => h) (Or.inl ⟨by rfl, ?hy61⟩) (by assumption) ?rest61
                  case hy61 => (intro w hSw; (try dsimp only at hSw); simp only [List.getElem_toArray, List.getElem_cons_zero, List.getElem_cons_succ]; go_simp; (try with_reducible rfl))
                  (try simp only [Act.put, List.getElem_toArray, List.getElem_cons_zero, List.getElem_cons_succ, List.setIfInBounds_toArray, List.set_cons_zero, List.set_cons_succ])
                  refine wpAnyH_done (by kernel_rfl) ?_ _
                  clear hHeld
                  have HZP := hid_mk OZP
                  clear OZP c0 dP dK dU
                  go_wp2_with fail
                  exact ⟨⟨p + 1, by congr 1, by omega, HOp.out.trans HZP.out⟩, by simp [intOf] <;> omega⟩
              · have e : p = N := by omega
                subst e
                have HWr := hid_mk (wrong_at (HSp2.out.quiet ro).1 (told_of (keepSp p st ps)) (wrong_none HIk.out HRk.out))
                have HOp := hid_mk ro
                clear ro
                go_wp2_with fail
                refine HWr.out.mono ?_
                rintro e w14 ⟨rfl, ho14⟩
                have HO14 := hid_mk ho14
                clear ho14 c1 c0
                go_wp2
                go_ret
                exact ⟨rfl, (HO12.out.trans HOp.out).trans HO14.out⟩
end Go.Proofs.YtjbbkeoolodeaabDoor
