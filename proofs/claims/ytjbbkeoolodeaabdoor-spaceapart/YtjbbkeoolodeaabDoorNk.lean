import Derived.Test.YtjbbkeoolodeaabDoorNj
import Derived.Test.YtjbbkeoolodeaabDoorNg
namespace Go.Proofs.YtjbbkeoolodeaabDoor
open Go.RowKit
set_option linter.unusedVariables false
set_option linter.unusedSimpArgs false

theorem fd_row {w : World} {G m : Nat} {l : List (Nat × Blk)} {i x : Nat} (h : Row w G 4 m (fun j => .bool (fdTo l i j))) (h1 : 1 ≤ (atB l i).2.2.2.1) (hx : (atB l i).2.2.2.1 = (x : Int)) : Row (w.setCell ⟨G, x, none⟩ (.bool true)) G 4 m (fun j => .bool (fdTo l (i + 1) j)) := by
  refine (h.set x (.bool true)).congr fun j _ => ?_
  show (if j = x then _ else _) = _
  by_cases e : j = x
  · rw [if_pos e, e]
    unfold fdTo
    rw [decide_eq_true h1, decide_eq_true hx]; rfl
  · rw [if_neg e]
    show Value.bool (fdTo l i j) = .bool (fdTo l (i + 1) j)
    conv => rhs; unfold fdTo
    rw [show decide ((atB l i).2.2.2.1 = (j : Int)) = false from decide_eq_false (by omega)]
    simp
theorem fd_same {w : World} {G m : Nat} {l : List (Nat × Blk)} {i : Nat} (h : Row w G 4 m (fun j => .bool (fdTo l i j))) (h1 : ¬ 1 ≤ (atB l i).2.2.2.1) : Row w G 4 m (fun j => .bool (fdTo l (i + 1) j)) := by
  refine h.congr fun j _ => ?_
  show Value.bool (fdTo l i j) = .bool (fdTo l (i + 1) j)
  conv => rhs; unfold fdTo
  rw [show decide (1 ≤ (atB l i).2.2.2.1) = false from decide_eq_false h1]
  simp
theorem eq_nilSl (W : World) (a : Addr) (n c : Nat) : (binOp .eql 27 (.slice (some a) n c) (.slice none 0 0)).run Tryd.prog W = .ok (.bool false) W := by kernel_rfl
theorem field_s (v1 v2 v3 v4 v5 v6 v7 v8 v9 va vb : Value) (n : Int) (w : World) : (Instr.field 46 (.agg #[v1, v2, v3, v4, v5, v6, v7, v8, v9, va, vb, .int .i64 n]) 4).run Tryd.prog w = .ok (.int .i64 n) w := by
  kernel_rfl
set_option maxRecDepth 100000 in
set_option maxHeartbeats 16000000 in
theorem apart_any {w : World} (hT : Tab w) (n0 : Int) (hn : -9223372036854775808 ≤ n0 ∧ n0 ≤ 9223372036854775807) {os : List OpQ} {p : Option Addr} {cp : Nat} (hS : ScrAt w w.heap.size p os) :
    Calls Tryd.prog 3 #[.int .i64 n0, .slice p os.length cp] w fun e w' => e = .returned (.bool true) ∧ Out 0 0 w w' := by
  have HAl := hid_mk (fun w' (hT' : Tab w') => alive_any hT')
  have HT := hid_mk hT
  have HS := hid_mk hS
  obtain ⟨m, hm, hm2⟩ := wth_nat n0 12 (by decide)
  obtain ⟨N, hN⟩ : ∃ N : Nat, 1 + wth n0 12 = (N : Int) := ⟨1 + m, by rw [hm]; push_cast; rfl⟩
  have HN : Hid (1 ≤ N ∧ N ≤ 12) := by show _ ∧ _; omega
  have HBg := hid_mk (begun_any hT n0 hn.1 hn.2 hN)
  clear hT hS hn hm hm2 hN m
  go_enter Tryd.func3, Tryd.ntmps3
  go_wp2_with fail
  refine HBg.out.mono ?_
  rintro e w1 ⟨b, lo, hi, s, cap, rfl, hw1, hs1, hb1, hl1, ho1⟩
  have H1 := hid_mk (And.intro hw1 (And.intro hs1 (And.intro hb1 (And.intro hl1 ho1))))
  have HA1 := hid_mk (HAl.out _ (HT.out.quiet ho1))
  clear hw1 hs1 hb1 hl1 ho1 HBg
  go_wp2_with fail
  refine HA1.out.mono ?_
  rintro e w2 ⟨rfl, ho2⟩
  have HO2 := hid_mk (H1.out.2.2.2.2.trans ho2)
  have HSm := hid_mk (fun w' (o : Out 0 0 w w') => small_at (cp := cp) (HS.out.kept o (.inr rfl)))
  have HA2 := hid_mk (fun w' (o : Out 0 0 w w') => HAl.out _ (HT.out.quiet o))
  have H2 := hid_mk (And.intro (H1.out.1.kept ho2 (.inr (Nat.zero_le _))) (And.intro (H1.out.2.1.quiet ho2) (And.intro H1.out.2.2.1 H1.out.2.2.2.1)))
  clear ho2 H1 HA1 HAl
  go_wp2_with fail
  refine (HSm.out _ HO2.out).mono ?_
  rintro e wx ⟨hwx, rfl⟩
  rw [hwx]
  clear hwx wx
  cases hr : smB os with
  | false =>
    rw [hr] at HSm
    clear hr
    go_wp2_with fail
    refine (HA2.out _ HO2.out).mono ?_
    rintro e w3 ⟨rfl, ho3⟩
    have HO3 := hid_mk (HO2.out.trans ho3)
    clear ho3
    go_wp2_with fail
    refine (HSm.out _ HO3.out).mono ?_
    rintro e wx ⟨hwx, rfl⟩
    rw [hwx]
    clear hwx wx
    go_wp2_with fail
    go_ret
    exact ⟨rfl, HO3.out⟩
  | true =>
    have HR := hid_mk (smB_all hr)
    clear hr
    have hq := H2.out
    have hst := wst_new hq.2.2.2 (by have := HT.out.lt; omega) hq.2.1 hq.1
    have hsc := (HS.out.kept HO2.out (.inr rfl)).mono (b' := b) hq.2.2.1
    have HP := hid_mk (played_any (cp := cp) hst HN.out.2 (Int.le_refl 0) hsc HR.out hq.1.lt)
    have HQ := hid_mk hq.2.2.1
    clear hq hst hsc H2 HA2 HSm
    go_wp2_with fail
    refine HP.out.mono ?_
    rintro e w3 ⟨rfl, hst3⟩
    obtain ⟨⟨st, l⟩, hF⟩ : ∃ q, plP N (newSp, []) os (min os.length 120) = q := ⟨_, rfl⟩
    rw [hF] at hst3
    have hlF := pl_last N (newSp, []) os (min os.length 120)
    rw [hF] at hlF
    have HLF : Hid (st.last ≤ 120) := by
      have : st.last ≤ 0 + ((min os.length 120 : Nat) : Int) := hlF
      show st.last ≤ 120
      omega
    have HO3 := hid_mk (HO2.out.past hst3.2.1 HQ.out)
    have HW := hid_mk (owner_any hst3 HN.out.2)
    have H3 := hid_mk hst3
    clear hst3 hlF HP
    go_wp2_with fail
    refine HW.out.mono ?_
    rintro e w4 ⟨rfl, _, ho4⟩
    -- the world stands in w4
    have hst4 := H3.out.quiet ho4
    have HO4 := hid_mk (HO3.out.trans ho4)
    obtain ⟨K, hK⟩ : ∃ K : Nat, st.last + 1 = (K : Int) := ⟨(st.last + 1).toNat, by have := hst4.2.2.1.2.last0; omega⟩
    have K0 : (0 : Int) < (K : Int) := by have := hst4.2.2.1.2.last0; omega
    have K1 : (K : Int) ≤ 121 := by have := HLF.out; omega
    have L0 : (0 : Int) ≤ st.last := hst4.2.2.1.2.last0
    have L1 : st.last ≤ 120 := HLF.out
    have hmk := run_make_row' (P := Tryd.prog) 29 4 (.bool false) 1 Tryd.underlying29 (by kernel_rfl) rfl .i64 .i64 K (by omega) (by omega)
    obtain ⟨g1, g2, g3, g4, g5, v, g6, g7⟩ := hst4
    obtain ⟨c0, c1, c2, c3, _⟩ := g6.cells
    have HW4 := hid_mk g6
    have HV4 := hid_mk g7
    have HS4 := hid_mk g3
    have HRt := hid_mk (And.intro g4 g5)
    have HB := hid_mk (And.intro g1 g2)
    clear g1 g2 g3 g4 g5 g6 g7 ho4 HW H3
    have heq := eq_nilSl
    have oA : Out 0 0 w4 (w4.alloc (.cells (madeCells #[.bool false] K) 4)) := (Out.refl 0 0 w4).alloc _
    have c5 := (HW4.out.kept oA (.inr (Nat.zero_le _))).cells.2.1
    clear oA
    go_wp2_with fail
    clear heq c5 c0 c1 c2 c3 hmk
    obtain ⟨W5, hW5⟩ : ∃ W, w4.alloc (.cells (madeCells #[.bool false] K) 4) = W := ⟨_, rfl⟩
    obtain ⟨G, hG⟩ : ∃ G, w4.heap.size = G := ⟨_, rfl⟩
    have HO5 : Hid (Out 0 0 w4 W5) := by rw [← hW5]; exact (Out.refl 0 0 w4).alloc _
    have HR5 : Hid (Row W5 G 4 K (fun j => .bool (fdTo l 0 j))) := by
      rw [← hW5, ← hG]
      refine ⟨_, heap_alloc_new _ _, by simp [madeCells], fun j hj => ?_⟩
      show _ = some (Value.bool false)
      exact made_b hj
    have HZ5 : Hid (W5.heap.size = G + 1) := by rw [← hW5, ← hG]; exact World.size_alloc _ _
    rw [hW5, hG]
    have HGw := hid_mk hG
    clear hW5 hG
    have HBl := hid_mk (spBlocks_any (HS4.out.1.quiet HO5.out) (told_of st))
    refine HBl.out.mono ?_
    rintro e w6 ⟨v6, rfl, hl6, ho6⟩
    rw [HZ5.out] at hl6
    have hlen6 := objs_all HS4.out.2 HRt.out.2
    obtain ⟨po, pc, rfl, hcel⟩ := own_at5' HV4.out
    obtain ⟨qo, qc, rfl, hcel6⟩ := own_at5' hl6
    rw [hlen6] at hcel6
    obtain ⟨m, hm⟩ : ∃ m, l.length = m := ⟨_, rfl⟩
    have hmm := obl_len HS4.out.2 HRt.out.2
    rw [hlen6, hm]
    rw [hm] at HW4 hcel hmm hcel6
    have HL6 := hid_mk hl6
    have HC6 := hid_mk hcel6
    have HC4 := hid_mk hcel
    have HO6 := hid_mk (HO5.out.trans ho6)
    have HR6 := hid_mk (HR5.out.kept ho6 (.inr (Nat.zero_le _)))
    have c2 := (HW4.out.kept HO6.out (.inr (Nat.zero_le _))).cells.2.2.1
    have m0 : (0 : Int) ≤ (m : Int) := by omega
    have m1 : (m : Int) ≤ 768 := by have := HN.out; omega
    clear hl6 ho6 hcel hcel6 hmm HO5 HR5 HBl
    go_wp2_with fail
    go_loopw [8] (fun u wr => ∃ i : Nat, u = .int .i64 (i : Int) ∧ i ≤ m ∧ Row wr G 4 K (fun j => .bool (fdTo l i j)) ∧ BListIs wr (G + 1) (.slice qo m qc) (objsTo (rawOf N st) (64 * N)) ∧ Out 0 0 w4 wr) (fun u _ => m - (intOf u).toNat)
    case atStart => exact ⟨0, rfl, Nat.zero_le _, HR6.out, by have := HL6.out; rw [hlen6, hm] at this; exact this, HO6.out⟩
    case round =>
      clear HR6 HL6 HC6 c2
      obtain ⟨i, rfl, i1, r1, r2, r3⟩ := hrel
      have i0 : (0 : Int) ≤ (i : Int) := by omega
      have c2 := (HW4.out.kept r3 (.inr (Nat.zero_le _))).cells.2.2.1
      by_cases hi : i < m
      · have i2 : (i : Int) < (m : Int) := by omega
        obtain ⟨g, rfl, g1, g2, g3, g4, g5, g6, g7⟩ := HC4.out i hi
        obtain ⟨a, ha⟩ : ∃ a, (atB l i).1 = a := ⟨_, rfl⟩
        obtain ⟨k, hk⟩ : ∃ k, (atB l i).2.1 = k := ⟨_, rfl⟩
        obtain ⟨z, hz⟩ : ∃ z, (atB l i).2.2.1 = z := ⟨_, rfl⟩
        obtain ⟨x, hx⟩ : ∃ x, (atB l i).2.2.2.1 = x := ⟨_, rfl⟩
        obtain ⟨t, ht⟩ : ∃ t, (atB l i).2.2.2.2 = t := ⟨_, rfl⟩
        have d0 := r3.cell g3 (.inr (Nat.zero_le _))
        have d1 := r3.cell g4 (.inr (Nat.zero_le _))
        have d2 := r3.cell g5 (.inr (Nat.zero_le _))
        have d3 := r3.cell g6 (.inr (Nat.zero_le _))
        have d4 := r3.cell g7 (.inr (Nat.zero_le _))
        rw [ha] at d0
        rw [hk] at d1
        rw [hz] at d2
        rw [hx] at d3
        rw [ht] at d4
        have HE := hid_mk (And.intro ha (And.intro hk (And.intro hz (And.intro hx ht))))
        have HR := hid_mk (And.intro r1 (And.intro r2 r3))
        have hfa := rm_facts HS4.out.2 HRt.out.2 (i := i) (by omega)
        rw [hz] at hfa
        obtain ⟨c, bl, hcl⟩ := cls_room hfa.1 hfa.2.1
        have hli := lies HS4.out.2 HRt.out.2 (i := i) (c := c) (rm := (roomN z : Int)) (bl := bl) (by omega) (by rw [hz]; exact hcl)
        rw [ha] at hli
        have HLi := hid_mk hli
        have HFa := hid_mk hfa
        have HCl := hid_mk (fun w' (o : Out 0 0 w4 w') => classOf_any (HT.out.quiet (HO4.out.trans o)) z hfa.1 hfa.2.1 hcl)
        have hmk : (rawOf N st).M (a : Int) = some (k, z, x, t) := by
          obtain ⟨e1, e2⟩ := obl_at HRt.out.2 (i := i) (by omega)
          rw [ha] at e1 e2
          show obM st (a : Int) = _
          unfold obM
          rw [show ((a : Int)).toNat = a from by omega, if_pos ⟨by omega, e2⟩, e1, ← hk, ← hz, ← hx, ← ht]
        have HMk := hid_mk hmk
        have HXs : Hid (x = 0 ∨ ∃ X : Nat, x = (X : Int) ∧ 1 ≤ X ∧ X < K) := by
          show _ ∨ _
          obtain ⟨e1, e2⟩ := obl_at HRt.out.2 (i := i) (by omega)
          have hs := HS4.out.2.ser _ e2
          rw [e1, hx] at hs
          cases hb : numB (atB l i).2.1 with
          | true =>
            have := hs.1 hb
            exact .inr ⟨x.toNat, by omega, by omega, by omega⟩
          | false => exact .inl (hs.2 hb)
        have HHG : Hid (G < wr.heap.size) := r1.lt
        clear ha hk hz hx ht r1 r2 r3 g1 g2 g3 g4 g5 g6 g7 hfa hli hcl hmk
        go_wp2_with fail
        clear d0 d1 d2 d3 d4 c2
        obtain ⟨W7, hW7⟩ : ∃ W, wr.alloc (.cells #[.int .i64 (a : Int), .int .i64 k, .int .i64 z, .int .i64 x, .int .i64 t] 36) = W := ⟨_, rfl⟩
        obtain ⟨H, hH⟩ : ∃ H, wr.heap.size = H := ⟨_, rfl⟩
        have o7 : Out 0 0 wr W7 := by rw [← hW7]; exact (Out.refl 0 0 wr).alloc _
        have fB7 : W7.heap[H]? = some (bo (a : Int) k z x t) := by rw [← hW7, ← hH]; exact heap_alloc_new _ _
        rw [hW7, hH]
        rw [hH] at HHG
        clear hW7 hH
        refine (HCl.out _ (HR.out.2.2.trans o7)).mono ?_
        rintro e w8 ⟨rfl, ho8⟩
        have HO8 := hid_mk (o7.trans ho8)
        have fB := ho8.heap fB7 (.inr (Nat.zero_le _))
        have c1 := (HW4.out.kept (HR.out.2.2.trans HO8.out) (.inr (Nat.zero_le _))).cells.2.1
        obtain ⟨q0, q1, q2, q3, q4⟩ := bo_facts fB
        have HB8 := hid_mk fB
        clear o7 fB7 ho8 fB HCl q1 q2 q3 q4
        go_wp2_with fail
        refine wp_region_held_drew (S := fun w' => w'.cell? ⟨b, 1, none⟩ = some (.pointer (some ⟨s 14, 0, none⟩)) ∧ w'.cell? ⟨H, 0, none⟩ = some (.int .i64 (a : Int))) (by kernel_rfl) ?hS1 (fun hHeld => ?rest1)
        case hS1 => exact ⟨c1, q0⟩
        obtain ⟨Z, hZ⟩ : ∃ Z, w8.drew = Z := ⟨_, rfl⟩
        have OZ : Out 0 0 w8 Z := by rw [← hZ]; exact (Out.refl 0 0 w8).drew
        rw [hZ] at hHeld ⊢
        clear hZ
        refine wpAnyH_take (i := 0) (v := ?v2) rfl (by kernel_rfl) (by kernel_rfl) (by kernel_rfl) (fun _ _ _ h => h) (Or.inl ⟨by rfl, ?hy2⟩) (by assumption) ?rest2
        case hy2 => (intro w hSw; (try dsimp only at hSw); simp only [List.getElem_toArray, List.getElem_cons_zero, List.getElem_cons_succ]; go_simp; (try with_reducible rfl))
        (try simp only [Act.put, List.getElem_toArray, List.getElem_cons_zero, List.getElem_cons_succ, List.setIfInBounds_toArray, List.set_cons_zero, List.set_cons_succ])
        refine wpAnyH_take (i := 1) (v := ?v3) rfl (by kernel_rfl) (by kernel_rfl) (by kernel_rfl) (fun _ _ _ h => h) (Or.inl ⟨by rfl, ?hy3⟩) (by assumption) ?rest3
        case hy3 => (intro w hSw; (try dsimp only at hSw); simp only [List.getElem_toArray, List.getElem_cons_zero, List.getElem_cons_succ]; go_simp; (try with_reducible rfl))
        (try simp only [Act.put, List.getElem_toArray, List.getElem_cons_zero, List.getElem_cons_succ, List.setIfInBounds_toArray, List.set_cons_zero, List.set_cons_succ])
        refine wpAnyH_take (i := 2) (v := ?v4) rfl (by kernel_rfl) (by kernel_rfl) (by kernel_rfl) (fun _ _ _ h => h) (Or.inl ⟨by rfl, ?hy4⟩) (by assumption) ?rest4
        case hy4 => (intro w hSw; (try dsimp only at hSw); simp only [List.getElem_toArray, List.getElem_cons_zero, List.getElem_cons_succ]; go_simp; (try with_reducible rfl))
        (try simp only [Act.put, List.getElem_toArray, List.getElem_cons_zero, List.getElem_cons_succ, List.setIfInBounds_toArray, List.set_cons_zero, List.set_cons_succ])
        refine wpAnyH_take (i := 3) (v := ?v5) rfl (by kernel_rfl) (by kernel_rfl) (by kernel_rfl) (fun _ _ _ h => h) (Or.inl ⟨by rfl, ?hy5⟩) (by assumption) ?rest5
        case hy5 => (intro w hSw; (try dsimp only at hSw); simp only [List.getElem_toArray, List.getElem_cons_zero, List.getElem_cons_succ]; go_simp; (try with_reducible rfl))
        (try simp only [Act.put, List.getElem_toArray, List.getElem_cons_zero, List.getElem_cons_succ, List.setIfInBounds_toArray, List.set_cons_zero, List.set_cons_succ])
        refine wpAnyH_take (i := 4) (v := ?v6) rfl (by kernel_rfl) (by kernel_rfl) (by kernel_rfl) (fun _ _ _ h => h) (Or.inl ⟨by rfl, ?hy6⟩) (by assumption) ?rest6
        case hy6 => (intro w hSw; (try dsimp only at hSw); simp only [List.getElem_toArray, List.getElem_cons_zero, List.getElem_cons_succ]; go_simp; (try with_reducible rfl))
        (try simp only [Act.put, List.getElem_toArray, List.getElem_cons_zero, List.getElem_cons_succ, List.setIfInBounds_toArray, List.set_cons_zero, List.set_cons_succ])
        refine wpAnyH_take (i := 5) (v := ?v7) rfl (by kernel_rfl) (by kernel_rfl) (by kernel_rfl) (fun _ _ _ h => h) (Or.inl ⟨by rfl, ?hy7⟩) (by assumption) ?rest7
        case hy7 => (intro w hSw; (try dsimp only at hSw); simp only [List.getElem_toArray, List.getElem_cons_zero, List.getElem_cons_succ]; go_simp; (try with_reducible rfl))
        (try simp only [Act.put, List.getElem_toArray, List.getElem_cons_zero, List.getElem_cons_succ, List.setIfInBounds_toArray, List.set_cons_zero, List.set_cons_succ])
        refine wpAnyH_ready (rs := [6, 10]) (by kernel_rfl) (by simp) ?_
        refine AllReadyH.cons rfl (fun KK hK => ?_) ?_
        · simp only [List.getElem_toArray, List.getElem_cons_zero, List.getElem_cons_succ]
          go_simp
          refine (block_some ((HS4.out.quiet (HR.out.2.2.trans (HO8.out.trans OZ))).1) HMk.out).mono ?_
          rintro e XB ⟨rfl, o1⟩
          replace OZ := OZ.trans o1
          refine hK.out _ _ ?hS8 (fun hHeld2 => ?rest8)
          case hS8 => exact ⟨o1.cell hHeld.1 (.inr (Nat.zero_le _)), o1.cell hHeld.2 (.inr (Nat.zero_le _))⟩
          clear o1
          clear hK KK
          (try clear hHeld)
          have hHeld := hHeld2
          clear hHeld2
          (try simp only [Act.put, List.getElem_toArray, List.getElem_cons_zero, List.getElem_cons_succ, List.setIfInBounds_toArray, List.set_cons_zero, List.set_cons_succ])
          refine wpAnyH_take (i := 7) (v := ?v9) rfl (by kernel_rfl) (by kernel_rfl) (by kernel_rfl) (fun _ _ _ h => h) (Or.inl ⟨by rfl, ?hy9⟩) (by assumption) ?rest9
          case hy9 => (intro w hSw; (try dsimp only at hSw); simp only [List.getElem_toArray, List.getElem_cons_zero, List.getElem_cons_succ]; go_simp; (try with_reducible rfl))
          (try simp only [Act.put, List.getElem_toArray, List.getElem_cons_zero, List.getElem_cons_succ, List.setIfInBounds_toArray, List.set_cons_zero, List.set_cons_succ])
          refine wpAnyH_take (i := 8) (v := ?v10) rfl (by kernel_rfl) (by kernel_rfl) (by kernel_rfl) (fun _ _ _ h => h) (Or.inl ⟨by rfl, ?hy10⟩) (by assumption) ?rest10
          case hy10 => (intro w hSw; (try dsimp only at hSw); simp only [List.getElem_toArray, List.getElem_cons_zero, List.getElem_cons_succ]; go_simp; (try with_reducible rfl))
          (try simp only [Act.put, List.getElem_toArray, List.getElem_cons_zero, List.getElem_cons_succ, List.setIfInBounds_toArray, List.set_cons_zero, List.set_cons_succ])
          refine wpAnyH_take (i := 9) (v := ?v11) rfl (by kernel_rfl) (by kernel_rfl) (by kernel_rfl) (fun _ _ _ h => h) (Or.inl ⟨by rfl, ?hy11⟩) (by assumption) ?rest11
          case hy11 => (intro w hSw; (try dsimp only at hSw); simp only [List.getElem_toArray, List.getElem_cons_zero, List.getElem_cons_succ]; go_simp; (try with_reducible rfl))
          (try simp only [Act.put, List.getElem_toArray, List.getElem_cons_zero, List.getElem_cons_succ, List.setIfInBounds_toArray, List.set_cons_zero, List.set_cons_succ])
          refine wpAnyH_ready (rs := [10]) (by kernel_rfl) (by simp) ?_
          refine AllReadyH.cons rfl (fun KK hK => ?_) ?_
          · simp only [List.getElem_toArray, List.getElem_cons_zero, List.getElem_cons_succ]
            go_simp
            obtain ⟨bd, hbd⟩ : ∃ B, XB.heap.size = B := ⟨_, rfl⟩
            obtain ⟨XBA, hW⟩ : ∃ W, XB.alloc (.cells #[.int .i64 0, .int .i64 0, .int .i64 0, .int .i64 0, .int .i64 0] 36) = W := ⟨_, rfl⟩
            have o1 : Out 0 0 XB XBA := by rw [← hW]; exact (Out.refl 0 0 _).alloc _
            have fD : XBA.heap[bd]? = some (bo 0 0 0 0 0) := by rw [← hW, ← hbd]; exact heap_alloc_new _ _
            have nD : H < bd ∧ b < bd ∧ w8.heap.size ≤ bd := by have h8 := OZ.size; have h9 := heap_lt HB8.out; have h10 := (HW4.out.kept (HR.out.2.2.trans HO8.out) (.inr (Nat.zero_le _))).lt; omega
            replace OZ := OZ.trans o1
            (try rw [hW])
            (try rw [hbd])
            clear hW hbd
            refine hK.out _ _ ?hS12 (fun hHeld2 => ?rest12)
            case hS12 => exact ⟨o1.cell hHeld.1 (.inr (Nat.zero_le _)), o1.cell hHeld.2 (.inr (Nat.zero_le _))⟩
            clear o1
            clear hK KK
            (try clear hHeld)
            have hHeld := hHeld2
            clear hHeld2
            (try simp only [Act.put, List.getElem_toArray, List.getElem_cons_zero, List.getElem_cons_succ, List.setIfInBounds_toArray, List.set_cons_zero, List.set_cons_succ])
            refine wpAnyH_ready (rs := [11]) (by kernel_rfl) (by simp) ?_
            refine AllReadyH.cons rfl (fun KK hK => ?_) ?_
            · simp only [List.getElem_toArray, List.getElem_cons_zero, List.getElem_cons_succ]
              obtain ⟨y5, y6, y7, y8, y9⟩ := bo_facts fD
              have yf : ∀ j, XBA.frozen? ⟨bd, j, none⟩ = false := fun j => by unfold bo at fD; simp [World.frozen?, fD]
              go_simp
              clear y5 y6 y7 y8 y9 yf
              obtain ⟨W9, hXE⟩ : ∃ W, ((((XBA.setCell ⟨bd, 0, none⟩ (.int .i64 (a : Int))).setCell ⟨bd, 1, none⟩ (.int .i64 k)).setCell ⟨bd, 2, none⟩ (.int .i64 z)).setCell ⟨bd, 3, none⟩ (.int .i64 x)).setCell ⟨bd, 4, none⟩ (.int .i64 t) = W := ⟨_, rfl⟩
              have o1 : Out bd (bd + 1) XBA W9 := by rw [← hXE]; exact bo_out _ _ _ _ _ _ _
              have fD2 : W9.heap[bd]? = some (bo (a : Int) k z x t) := by rw [← hXE]; exact bo_set fD _ _ _ _ _
              rw [hXE]
              clear hXE fD
              have fD := fD2
              clear fD2
              refine hK.out _ _ ?hS13 (fun hHeld2 => ?rest13)
              case hS13 => exact ⟨o1.cell hHeld.1 (.inl (by omega)), o1.cell hHeld.2 (.inl (by omega))⟩
              clear hK KK
              (try clear hHeld)
              have hHeld := hHeld2
              clear hHeld2
              (try simp only [Act.put, List.getElem_toArray, List.getElem_cons_zero, List.getElem_cons_succ, List.setIfInBounds_toArray, List.set_cons_zero, List.set_cons_succ])
              refine wpAnyH_take (i := 12) (v := ?v14) rfl (by kernel_rfl) (by kernel_rfl) (by kernel_rfl) (fun _ _ _ h => h) (Or.inl ⟨by rfl, ?hy14⟩) (by assumption) ?rest14
              case hy14 => (intro w hSw; (try dsimp only at hSw); simp only [List.getElem_toArray, List.getElem_cons_zero, List.getElem_cons_succ]; go_simp; (try with_reducible rfl))
              (try simp only [Act.put, List.getElem_toArray, List.getElem_cons_zero, List.getElem_cons_succ, List.setIfInBounds_toArray, List.set_cons_zero, List.set_cons_succ])
              refine wpAnyH_done (by kernel_rfl) ?_ _
              clear hHeld
              have HO9 := hid_mk (HO8.out.trans (OZ.past o1 nD.2.2))
              have fB := (OZ.past o1 nD.2.2).heap HB8.out (.inr (Nat.zero_le _))
              have HB9 := hid_mk (And.intro fB fD)
              obtain ⟨q0, q1, q2, q3, q4⟩ := bo_facts fB
              obtain ⟨p0, p1, p2, p3, p4⟩ := bo_facts fD
              clear OZ o1 nD fB fD c1
              rcases HXs.out with hx0 | ⟨X, hx0, X1, X2⟩
              · subst hx0
                rcases HLi.out with ⟨hc8, hr0, hr1, hr2⟩ | ⟨hc8, hr1⟩
                · have hq8 : c ≠ 8 := by omega
                  have s1 : (a : Int) % 64 % (roomN z : Int) = 0 := by rw [← hr1]; rfl
                  have s2 : (a : Int) % 64 + (roomN z : Int) ≤ 64 := hr2
                  clear hr1 hr2
                  go_wp2_with fail
                  have hE := HE.out
                  exact ⟨⟨i + 1, by congr 1, by omega, fd_same (HR.out.1.kept HO9.out (.inr (Nat.zero_le _))) (by rw [hE.2.2.2.1]; omega), ownk HR.out.2.1 HO9.out (Nat.zero_le _), HR.out.2.2.trans HO9.out⟩, by simp [intOf]; omega⟩
                · subst hc8
                  have s1 : (a : Int) % 64 = 0 := by omega
                  clear hr1
                  go_wp2_with fail
                  have hE := HE.out
                  exact ⟨⟨i + 1, by congr 1, by omega, fd_same (HR.out.1.kept HO9.out (.inr (Nat.zero_le _))) (by rw [hE.2.2.2.1]; omega), ownk HR.out.2.1 HO9.out (Nat.zero_le _), HR.out.2.2.trans HO9.out⟩, by simp [intOf]; omega⟩
              · subst hx0
                have fR := HR.out.1.kept HO9.out (.inr (Nat.zero_le _))
                have d0 := fR.cell X2
                have d1 := fR.frozen X
                have X3 : (1 : Int) ≤ (X : Int) := by omega
                have X4 : (X : Int) < (K : Int) := by omega
                have HFR := hid_mk fR
                clear fR
                rcases HLi.out with ⟨hc8, hr0, hr1, hr2⟩ | ⟨hc8, hr1⟩
                · have hq8 : c ≠ 8 := by omega
                  have s1 : (a : Int) % 64 % (roomN z : Int) = 0 := by rw [← hr1]; rfl
                  have s2 : (a : Int) % 64 + (roomN z : Int) ≤ 64 := hr2
                  clear hr1 hr2
                  go_wp2_with fail
                  clear q0 q1 q2 q3 q4 p0 p1 p2 p3 p4 d0 d1
                  obtain ⟨WA, hWA⟩ : ∃ W, W9.setCell ⟨G, X, none⟩ (.bool true) = W := ⟨_, rfl⟩
                  have HOA : Hid (Out G (G + 1) W9 WA) := by rw [← hWA]; exact (Out.refl _ _ _).setCell (p := ⟨G, X, none⟩) (.inl ⟨Nat.le_refl _, Nat.lt_succ_self _⟩) _
                  have HRA : Hid (Row WA G 4 K (fun j => .bool (fdTo l (i + 1) j))) := by rw [← hWA]; exact fd_row HFR.out (by rw [HE.out.2.2.2.1]; omega) HE.out.2.2.2.1
                  rw [hWA]
                  clear hWA
                  have HO49 := hid_mk ((HR.out.2.2.trans HO9.out).past HOA.out (by have := HGw.out; omega))
                  have HBA := hid_mk (HOA.out.heap HB9.out.1 (.inr (by have := HHG.out; omega)))
                  obtain ⟨t0, t1, t2, t3, t4⟩ := bo_facts HBA.out
                  have c1 := (HW4.out.kept HO49.out (.inr (Nat.zero_le _))).cells.2.1
                  have hsr : (rawOf N st).R (X : Int) = some (a : Int) := by
                    have := ser_at HS4.out.2 HRt.out.2 (i := i) (by omega) (by rw [HE.out.2.2.2.1]; omega)
                    rw [HE.out.2.2.2.1, HE.out.1] at this
                    exact this
                  have HFi := hid_mk (fun W (o : Out 0 0 WA W) => spFind_any (HS4.out.quiet (HO49.out.trans o)).1 (X : Int))
                  rw [hsr] at HFi
                  simp only [Option.getD_some, Option.isSome_some] at HFi
                  clear hsr t0 t1 t2 t4
                  refine wp_region_held_drew (S := fun w' => w'.cell? ⟨b, 1, none⟩ = some (.pointer (some ⟨s 14, 0, none⟩)) ∧ w'.cell? ⟨H, 3, none⟩ = some (.int .i64 (X : Int))) (by kernel_rfl) ?hS15 (fun hHeld => ?rest15)
                  case hS15 => exact ⟨c1, t3⟩
                  obtain ⟨ZA, hZ⟩ : ∃ Z, WA.drew = Z := ⟨_, rfl⟩
                  have OZA : Out 0 0 WA ZA := by rw [← hZ]; exact (Out.refl 0 0 WA).drew
                  rw [hZ] at hHeld ⊢
                  clear hZ
                  refine wpAnyH_take (i := 0) (v := ?v16) rfl (by kernel_rfl) (by kernel_rfl) (by kernel_rfl) (fun _ _ _ h => h) (Or.inl ⟨by rfl, ?hy16⟩) (by assumption) ?rest16
                  case hy16 => (intro w hSw; (try dsimp only at hSw); simp only [List.getElem_toArray, List.getElem_cons_zero, List.getElem_cons_succ]; go_simp; (try with_reducible rfl))
                  (try simp only [Act.put, List.getElem_toArray, List.getElem_cons_zero, List.getElem_cons_succ, List.setIfInBounds_toArray, List.set_cons_zero, List.set_cons_succ])
                  refine wpAnyH_take (i := 1) (v := ?v17) rfl (by kernel_rfl) (by kernel_rfl) (by kernel_rfl) (fun _ _ _ h => h) (Or.inl ⟨by rfl, ?hy17⟩) (by assumption) ?rest17
                  case hy17 => (intro w hSw; (try dsimp only at hSw); simp only [List.getElem_toArray, List.getElem_cons_zero, List.getElem_cons_succ]; go_simp; (try with_reducible rfl))
                  (try simp only [Act.put, List.getElem_toArray, List.getElem_cons_zero, List.getElem_cons_succ, List.setIfInBounds_toArray, List.set_cons_zero, List.set_cons_succ])
                  refine wpAnyH_take (i := 2) (v := ?v18) rfl (by kernel_rfl) (by kernel_rfl) (by kernel_rfl) (fun _ _ _ h => h) (Or.inl ⟨by rfl, ?hy18⟩) (by assumption) ?rest18
                  case hy18 => (intro w hSw; (try dsimp only at hSw); simp only [List.getElem_toArray, List.getElem_cons_zero, List.getElem_cons_succ]; go_simp; (try with_reducible rfl))
                  (try simp only [Act.put, List.getElem_toArray, List.getElem_cons_zero, List.getElem_cons_succ, List.setIfInBounds_toArray, List.set_cons_zero, List.set_cons_succ])
                  refine wpAnyH_take (i := 3) (v := ?v19) rfl (by kernel_rfl) (by kernel_rfl) (by kernel_rfl) (fun _ _ _ h => h) (Or.inl ⟨by rfl, ?hy19⟩) (by assumption) ?rest19
                  case hy19 => (intro w hSw; (try dsimp only at hSw); simp only [List.getElem_toArray, List.getElem_cons_zero, List.getElem_cons_succ]; go_simp; (try with_reducible rfl))
                  (try simp only [Act.put, List.getElem_toArray, List.getElem_cons_zero, List.getElem_cons_succ, List.setIfInBounds_toArray, List.set_cons_zero, List.set_cons_succ])
                  refine wpAnyH_take (i := 4) (v := ?v20) rfl (by kernel_rfl) (by kernel_rfl) (by kernel_rfl) (fun _ _ _ h => h) (Or.inl ⟨by rfl, ?hy20⟩) (by assumption) ?rest20
                  case hy20 => (intro w hSw; (try dsimp only at hSw); simp only [List.getElem_toArray, List.getElem_cons_zero, List.getElem_cons_succ]; go_simp; (try with_reducible rfl))
                  (try simp only [Act.put, List.getElem_toArray, List.getElem_cons_zero, List.getElem_cons_succ, List.setIfInBounds_toArray, List.set_cons_zero, List.set_cons_succ])
                  refine wpAnyH_take (i := 5) (v := ?v21) rfl (by kernel_rfl) (by kernel_rfl) (by kernel_rfl) (fun _ _ _ h => h) (Or.inl ⟨by rfl, ?hy21⟩) (by assumption) ?rest21
                  case hy21 => (intro w hSw; (try dsimp only at hSw); simp only [List.getElem_toArray, List.getElem_cons_zero, List.getElem_cons_succ]; go_simp; (try with_reducible rfl))
                  (try simp only [Act.put, List.getElem_toArray, List.getElem_cons_zero, List.getElem_cons_succ, List.setIfInBounds_toArray, List.set_cons_zero, List.set_cons_succ])
                  refine wpAnyH_ready (rs := [6]) (by kernel_rfl) (by simp) ?_
                  refine AllReadyH.cons rfl (fun KK hK => ?_) AllReadyH.nil
                  simp only [List.getElem_toArray, List.getElem_cons_zero, List.getElem_cons_succ]
                  go_simp
                  refine (HFi.out _ OZA).mono ?_
                  rintro e w5 ⟨rfl, he⟩
                  rw [he]
                  clear he w5
                  refine hK.out _ _ ?hS22 (fun hHeld2 => ?rest22)
                  case hS22 => exact hHeld
                  clear hK KK
                  (try clear hHeld)
                  have hHeld := hHeld2
                  clear hHeld2
                  (try simp only [Act.put, List.getElem_toArray, List.getElem_cons_zero, List.getElem_cons_succ, List.setIfInBounds_toArray, List.set_cons_zero, List.set_cons_succ])
                  refine wpAnyH_take (i := 7) (v := ?v23) rfl (by kernel_rfl) (by kernel_rfl) (by kernel_rfl) (fun _ _ _ h => h) (Or.inl ⟨by rfl, ?hy23⟩) (by assumption) ?rest23
                  case hy23 => (intro w hSw; (try dsimp only at hSw); simp only [List.getElem_toArray, List.getElem_cons_zero, List.getElem_cons_succ]; go_simp; (try with_reducible rfl))
                  (try simp only [Act.put, List.getElem_toArray, List.getElem_cons_zero, List.getElem_cons_succ, List.setIfInBounds_toArray, List.set_cons_zero, List.set_cons_succ])
                  refine wpAnyH_take (i := 8) (v := ?v24) rfl (by kernel_rfl) (by kernel_rfl) (by kernel_rfl) (fun _ _ _ h => h) (Or.inl ⟨by rfl, ?hy24⟩) (by assumption) ?rest24
                  case hy24 => (intro w hSw; (try dsimp only at hSw); simp only [List.getElem_toArray, List.getElem_cons_zero, List.getElem_cons_succ]; go_simp; (try with_reducible rfl))
                  (try simp only [Act.put, List.getElem_toArray, List.getElem_cons_zero, List.getElem_cons_succ, List.setIfInBounds_toArray, List.set_cons_zero, List.set_cons_succ])
                  refine wpAnyH_take (i := 9) (v := ?v25) rfl (by kernel_rfl) (by kernel_rfl) (by kernel_rfl) (fun _ _ _ h => h) (Or.inl ⟨by rfl, ?hy25⟩) (by assumption) ?rest25
                  case hy25 => (intro w hSw; (try dsimp only at hSw); simp only [List.getElem_toArray, List.getElem_cons_zero, List.getElem_cons_succ]; go_simp; (try with_reducible rfl))
                  (try simp only [Act.put, List.getElem_toArray, List.getElem_cons_zero, List.getElem_cons_succ, List.setIfInBounds_toArray, List.set_cons_zero, List.set_cons_succ])
                  refine wpAnyH_take (i := 10) (v := ?v26) rfl (by kernel_rfl) (by kernel_rfl) (by kernel_rfl) (fun _ _ _ h => h) (Or.inl ⟨by rfl, ?hy26⟩) (by assumption) ?rest26
                  case hy26 => (intro w hSw; (try dsimp only at hSw); simp only [List.getElem_toArray, List.getElem_cons_zero, List.getElem_cons_succ]; go_simp; (try with_reducible rfl))
                  (try simp only [Act.put, List.getElem_toArray, List.getElem_cons_zero, List.getElem_cons_succ, List.setIfInBounds_toArray, List.set_cons_zero, List.set_cons_succ])
                  refine wpAnyH_take (i := 11) (v := ?v27) rfl (by kernel_rfl) (by kernel_rfl) (by kernel_rfl) (fun _ _ _ h => h) (Or.inl ⟨by rfl, ?hy27⟩) (by assumption) ?rest27
                  case hy27 => (intro w hSw; (try dsimp only at hSw); simp only [List.getElem_toArray, List.getElem_cons_zero, List.getElem_cons_succ]; go_simp; (try with_reducible rfl))
                  (try simp only [Act.put, List.getElem_toArray, List.getElem_cons_zero, List.getElem_cons_succ, List.setIfInBounds_toArray, List.set_cons_zero, List.set_cons_succ])
                  refine wpAnyH_done (by kernel_rfl) ?_ _
                  clear hHeld
                  obtain ⟨t0, t1, t2, t3, t4⟩ := bo_facts (OZA.heap HBA.out (.inr (Nat.zero_le _)))
                  have HZA := hid_mk OZA
                  clear OZA c1
                  go_wp2_with fail
                  exact ⟨⟨i + 1, by congr 1, by omega, HRA.out.kept HZA.out (.inr (Nat.zero_le _)), ownk (ownk (ownk HR.out.2.1 HO9.out (Nat.zero_le _)) HOA.out (Nat.le_refl _)) HZA.out (Nat.zero_le _), HO49.out.trans HZA.out⟩, by simp [intOf]; omega⟩
                · subst hc8
                  have s1 : (a : Int) % 64 = 0 := by omega
                  clear hr1
                  go_wp2_with fail
                  clear q0 q1 q2 q3 q4 p0 p1 p2 p3 p4 d0 d1
                  obtain ⟨WA, hWA⟩ : ∃ W, W9.setCell ⟨G, X, none⟩ (.bool true) = W := ⟨_, rfl⟩
                  have HOA : Hid (Out G (G + 1) W9 WA) := by rw [← hWA]; exact (Out.refl _ _ _).setCell (p := ⟨G, X, none⟩) (.inl ⟨Nat.le_refl _, Nat.lt_succ_self _⟩) _
                  have HRA : Hid (Row WA G 4 K (fun j => .bool (fdTo l (i + 1) j))) := by rw [← hWA]; exact fd_row HFR.out (by rw [HE.out.2.2.2.1]; omega) HE.out.2.2.2.1
                  rw [hWA]
                  clear hWA
                  have HO49 := hid_mk ((HR.out.2.2.trans HO9.out).past HOA.out (by have := HGw.out; omega))
                  have HBA := hid_mk (HOA.out.heap HB9.out.1 (.inr (by have := HHG.out; omega)))
                  obtain ⟨t0, t1, t2, t3, t4⟩ := bo_facts HBA.out
                  have c1 := (HW4.out.kept HO49.out (.inr (Nat.zero_le _))).cells.2.1
                  have hsr : (rawOf N st).R (X : Int) = some (a : Int) := by
                    have := ser_at HS4.out.2 HRt.out.2 (i := i) (by omega) (by rw [HE.out.2.2.2.1]; omega)
                    rw [HE.out.2.2.2.1, HE.out.1] at this
                    exact this
                  have HFi := hid_mk (fun W (o : Out 0 0 WA W) => spFind_any (HS4.out.quiet (HO49.out.trans o)).1 (X : Int))
                  rw [hsr] at HFi
                  simp only [Option.getD_some, Option.isSome_some] at HFi
                  clear hsr t0 t1 t2 t4
                  refine wp_region_held_drew (S := fun w' => w'.cell? ⟨b, 1, none⟩ = some (.pointer (some ⟨s 14, 0, none⟩)) ∧ w'.cell? ⟨H, 3, none⟩ = some (.int .i64 (X : Int))) (by kernel_rfl) ?hS28 (fun hHeld => ?rest28)
                  case hS28 => exact ⟨c1, t3⟩
                  obtain ⟨ZA, hZ⟩ : ∃ Z, WA.drew = Z := ⟨_, rfl⟩
                  have OZA : Out 0 0 WA ZA := by rw [← hZ]; exact (Out.refl 0 0 WA).drew
                  rw [hZ] at hHeld ⊢
                  clear hZ
                  refine wpAnyH_take (i := 0) (v := ?v29) rfl (by kernel_rfl) (by kernel_rfl) (by kernel_rfl) (fun _ _ _ h => h) (Or.inl ⟨by rfl, ?hy29⟩) (by assumption) ?rest29
                  case hy29 => (intro w hSw; (try dsimp only at hSw); simp only [List.getElem_toArray, List.getElem_cons_zero, List.getElem_cons_succ]; go_simp; (try with_reducible rfl))
                  (try simp only [Act.put, List.getElem_toArray, List.getElem_cons_zero, List.getElem_cons_succ, List.setIfInBounds_toArray, List.set_cons_zero, List.set_cons_succ])
                  refine wpAnyH_take (i := 1) (v := ?v30) rfl (by kernel_rfl) (by kernel_rfl) (by kernel_rfl) (fun _ _ _ h => h) (Or.inl ⟨by rfl, ?hy30⟩) (by assumption) ?rest30
                  case hy30 => (intro w hSw; (try dsimp only at hSw); simp only [List.getElem_toArray, List.getElem_cons_zero, List.getElem_cons_succ]; go_simp; (try with_reducible rfl))
                  (try simp only [Act.put, List.getElem_toArray, List.getElem_cons_zero, List.getElem_cons_succ, List.setIfInBounds_toArray, List.set_cons_zero, List.set_cons_succ])
                  refine wpAnyH_take (i := 2) (v := ?v31) rfl (by kernel_rfl) (by kernel_rfl) (by kernel_rfl) (fun _ _ _ h => h) (Or.inl ⟨by rfl, ?hy31⟩) (by assumption) ?rest31
                  case hy31 => (intro w hSw; (try dsimp only at hSw); simp only [List.getElem_toArray, List.getElem_cons_zero, List.getElem_cons_succ]; go_simp; (try with_reducible rfl))
                  (try simp only [Act.put, List.getElem_toArray, List.getElem_cons_zero, List.getElem_cons_succ, List.setIfInBounds_toArray, List.set_cons_zero, List.set_cons_succ])
                  refine wpAnyH_take (i := 3) (v := ?v32) rfl (by kernel_rfl) (by kernel_rfl) (by kernel_rfl) (fun _ _ _ h => h) (Or.inl ⟨by rfl, ?hy32⟩) (by assumption) ?rest32
                  case hy32 => (intro w hSw; (try dsimp only at hSw); simp only [List.getElem_toArray, List.getElem_cons_zero, List.getElem_cons_succ]; go_simp; (try with_reducible rfl))
                  (try simp only [Act.put, List.getElem_toArray, List.getElem_cons_zero, List.getElem_cons_succ, List.setIfInBounds_toArray, List.set_cons_zero, List.set_cons_succ])
                  refine wpAnyH_take (i := 4) (v := ?v33) rfl (by kernel_rfl) (by kernel_rfl) (by kernel_rfl) (fun _ _ _ h => h) (Or.inl ⟨by rfl, ?hy33⟩) (by assumption) ?rest33
                  case hy33 => (intro w hSw; (try dsimp only at hSw); simp only [List.getElem_toArray, List.getElem_cons_zero, List.getElem_cons_succ]; go_simp; (try with_reducible rfl))
                  (try simp only [Act.put, List.getElem_toArray, List.getElem_cons_zero, List.getElem_cons_succ, List.setIfInBounds_toArray, List.set_cons_zero, List.set_cons_succ])
                  refine wpAnyH_take (i := 5) (v := ?v34) rfl (by kernel_rfl) (by kernel_rfl) (by kernel_rfl) (fun _ _ _ h => h) (Or.inl ⟨by rfl, ?hy34⟩) (by assumption) ?rest34
                  case hy34 => (intro w hSw; (try dsimp only at hSw); simp only [List.getElem_toArray, List.getElem_cons_zero, List.getElem_cons_succ]; go_simp; (try with_reducible rfl))
                  (try simp only [Act.put, List.getElem_toArray, List.getElem_cons_zero, List.getElem_cons_succ, List.setIfInBounds_toArray, List.set_cons_zero, List.set_cons_succ])
                  refine wpAnyH_ready (rs := [6]) (by kernel_rfl) (by simp) ?_
                  refine AllReadyH.cons rfl (fun KK hK => ?_) AllReadyH.nil
                  simp only [List.getElem_toArray, List.getElem_cons_zero, List.getElem_cons_succ]
                  go_simp
                  refine (HFi.out _ OZA).mono ?_
                  rintro e w5 ⟨rfl, he⟩
                  rw [he]
                  clear he w5
                  refine hK.out _ _ ?hS35 (fun hHeld2 => ?rest35)
                  case hS35 => exact hHeld
                  clear hK KK
                  (try clear hHeld)
                  have hHeld := hHeld2
                  clear hHeld2
                  (try simp only [Act.put, List.getElem_toArray, List.getElem_cons_zero, List.getElem_cons_succ, List.setIfInBounds_toArray, List.set_cons_zero, List.set_cons_succ])
                  refine wpAnyH_take (i := 7) (v := ?v36) rfl (by kernel_rfl) (by kernel_rfl) (by kernel_rfl) (fun _ _ _ h => h) (Or.inl ⟨by rfl, ?hy36⟩) (by assumption) ?rest36
                  case hy36 => (intro w hSw; (try dsimp only at hSw); simp only [List.getElem_toArray, List.getElem_cons_zero, List.getElem_cons_succ]; go_simp; (try with_reducible rfl))
                  (try simp only [Act.put, List.getElem_toArray, List.getElem_cons_zero, List.getElem_cons_succ, List.setIfInBounds_toArray, List.set_cons_zero, List.set_cons_succ])
                  refine wpAnyH_take (i := 8) (v := ?v37) rfl (by kernel_rfl) (by kernel_rfl) (by kernel_rfl) (fun _ _ _ h => h) (Or.inl ⟨by rfl, ?hy37⟩) (by assumption) ?rest37
                  case hy37 => (intro w hSw; (try dsimp only at hSw); simp only [List.getElem_toArray, List.getElem_cons_zero, List.getElem_cons_succ]; go_simp; (try with_reducible rfl))
                  (try simp only [Act.put, List.getElem_toArray, List.getElem_cons_zero, List.getElem_cons_succ, List.setIfInBounds_toArray, List.set_cons_zero, List.set_cons_succ])
                  refine wpAnyH_take (i := 9) (v := ?v38) rfl (by kernel_rfl) (by kernel_rfl) (by kernel_rfl) (fun _ _ _ h => h) (Or.inl ⟨by rfl, ?hy38⟩) (by assumption) ?rest38
                  case hy38 => (intro w hSw; (try dsimp only at hSw); simp only [List.getElem_toArray, List.getElem_cons_zero, List.getElem_cons_succ]; go_simp; (try with_reducible rfl))
                  (try simp only [Act.put, List.getElem_toArray, List.getElem_cons_zero, List.getElem_cons_succ, List.setIfInBounds_toArray, List.set_cons_zero, List.set_cons_succ])
                  refine wpAnyH_take (i := 10) (v := ?v39) rfl (by kernel_rfl) (by kernel_rfl) (by kernel_rfl) (fun _ _ _ h => h) (Or.inl ⟨by rfl, ?hy39⟩) (by assumption) ?rest39
                  case hy39 => (intro w hSw; (try dsimp only at hSw); simp only [List.getElem_toArray, List.getElem_cons_zero, List.getElem_cons_succ]; go_simp; (try with_reducible rfl))
                  (try simp only [Act.put, List.getElem_toArray, List.getElem_cons_zero, List.getElem_cons_succ, List.setIfInBounds_toArray, List.set_cons_zero, List.set_cons_succ])
                  refine wpAnyH_take (i := 11) (v := ?v40) rfl (by kernel_rfl) (by kernel_rfl) (by kernel_rfl) (fun _ _ _ h => h) (Or.inl ⟨by rfl, ?hy40⟩) (by assumption) ?rest40
                  case hy40 => (intro w hSw; (try dsimp only at hSw); simp only [List.getElem_toArray, List.getElem_cons_zero, List.getElem_cons_succ]; go_simp; (try with_reducible rfl))
                  (try simp only [Act.put, List.getElem_toArray, List.getElem_cons_zero, List.getElem_cons_succ, List.setIfInBounds_toArray, List.set_cons_zero, List.set_cons_succ])
                  refine wpAnyH_done (by kernel_rfl) ?_ _
                  clear hHeld
                  obtain ⟨t0, t1, t2, t3, t4⟩ := bo_facts (OZA.heap HBA.out (.inr (Nat.zero_le _)))
                  have HZA := hid_mk OZA
                  clear OZA c1
                  go_wp2_with fail
                  exact ⟨⟨i + 1, by congr 1, by omega, HRA.out.kept HZA.out (.inr (Nat.zero_le _)), ownk (ownk (ownk HR.out.2.1 HO9.out (Nat.zero_le _)) HOA.out (Nat.le_refl _)) HZA.out (Nat.zero_le _), HO49.out.trans HZA.out⟩, by simp [intOf]; omega⟩
            · exact AllReadyH.nil
          · exact AllReadyH.nil
        · refine AllReadyH.cons rfl (fun KK hK => ?_) ?_
          · simp only [List.getElem_toArray, List.getElem_cons_zero, List.getElem_cons_succ]
            go_simp
            obtain ⟨bd, hbd⟩ : ∃ B, Z.heap.size = B := ⟨_, rfl⟩
            obtain ⟨XA, hW⟩ : ∃ W, Z.alloc (.cells #[.int .i64 0, .int .i64 0, .int .i64 0, .int .i64 0, .int .i64 0] 36) = W := ⟨_, rfl⟩
            have o1 : Out 0 0 Z XA := by rw [← hW]; exact (Out.refl 0 0 _).alloc _
            have fD : XA.heap[bd]? = some (bo 0 0 0 0 0) := by rw [← hW, ← hbd]; exact heap_alloc_new _ _
            have nD : H < bd ∧ b < bd ∧ w8.heap.size ≤ bd := by have h8 := OZ.size; have h9 := heap_lt HB8.out; have h10 := (HW4.out.kept (HR.out.2.2.trans HO8.out) (.inr (Nat.zero_le _))).lt; omega
            replace OZ := OZ.trans o1
            (try rw [hW])
            (try rw [hbd])
            clear hW hbd
            refine hK.out _ _ ?hS41 (fun hHeld2 => ?rest41)
            case hS41 => exact ⟨o1.cell hHeld.1 (.inr (Nat.zero_le _)), o1.cell hHeld.2 (.inr (Nat.zero_le _))⟩
            clear o1
            clear hK KK
            (try clear hHeld)
            have hHeld := hHeld2
            clear hHeld2
            (try simp only [Act.put, List.getElem_toArray, List.getElem_cons_zero, List.getElem_cons_succ, List.setIfInBounds_toArray, List.set_cons_zero, List.set_cons_succ])
            refine wpAnyH_ready (rs := [6]) (by kernel_rfl) (by simp) ?_
            refine AllReadyH.cons rfl (fun KK hK => ?_) ?_
            · simp only [List.getElem_toArray, List.getElem_cons_zero, List.getElem_cons_succ]
              go_simp
              refine (block_some ((HS4.out.quiet (HR.out.2.2.trans (HO8.out.trans OZ))).1) HMk.out).mono ?_
              rintro e XAB ⟨rfl, o1⟩
              replace OZ := OZ.trans o1
              replace fD := o1.heap fD (.inr (Nat.zero_le _))
              refine hK.out _ _ ?hS42 (fun hHeld2 => ?rest42)
              case hS42 => exact ⟨o1.cell hHeld.1 (.inr (Nat.zero_le _)), o1.cell hHeld.2 (.inr (Nat.zero_le _))⟩
              clear o1
              clear hK KK
              (try clear hHeld)
              have hHeld := hHeld2
              clear hHeld2
              (try simp only [Act.put, List.getElem_toArray, List.getElem_cons_zero, List.getElem_cons_succ, List.setIfInBounds_toArray, List.set_cons_zero, List.set_cons_succ])
              refine wpAnyH_take (i := 7) (v := ?v43) rfl (by kernel_rfl) (by kernel_rfl) (by kernel_rfl) (fun _ _ _ h => h) (Or.inl ⟨by rfl, ?hy43⟩) (by assumption) ?rest43
              case hy43 => (intro w hSw; (try dsimp only at hSw); simp only [List.getElem_toArray, List.getElem_cons_zero, List.getElem_cons_succ]; go_simp; (try with_reducible rfl))
              (try simp only [Act.put, List.getElem_toArray, List.getElem_cons_zero, List.getElem_cons_succ, List.setIfInBounds_toArray, List.set_cons_zero, List.set_cons_succ])
              refine wpAnyH_take (i := 8) (v := ?v44) rfl (by kernel_rfl) (by kernel_rfl) (by kernel_rfl) (fun _ _ _ h => h) (Or.inl ⟨by rfl, ?hy44⟩) (by assumption) ?rest44
              case hy44 => (intro w hSw; (try dsimp only at hSw); simp only [List.getElem_toArray, List.getElem_cons_zero, List.getElem_cons_succ]; go_simp; (try with_reducible rfl))
              (try simp only [Act.put, List.getElem_toArray, List.getElem_cons_zero, List.getElem_cons_succ, List.setIfInBounds_toArray, List.set_cons_zero, List.set_cons_succ])
              refine wpAnyH_take (i := 9) (v := ?v45) rfl (by kernel_rfl) (by kernel_rfl) (by kernel_rfl) (fun _ _ _ h => h) (Or.inl ⟨by rfl, ?hy45⟩) (by assumption) ?rest45
              case hy45 => (intro w hSw; (try dsimp only at hSw); simp only [List.getElem_toArray, List.getElem_cons_zero, List.getElem_cons_succ]; go_simp; (try with_reducible rfl))
              (try simp only [Act.put, List.getElem_toArray, List.getElem_cons_zero, List.getElem_cons_succ, List.setIfInBounds_toArray, List.set_cons_zero, List.set_cons_succ])
              refine wpAnyH_ready (rs := [11]) (by kernel_rfl) (by simp) ?_
              refine AllReadyH.cons rfl (fun KK hK => ?_) ?_
              · simp only [List.getElem_toArray, List.getElem_cons_zero, List.getElem_cons_succ]
                obtain ⟨y5, y6, y7, y8, y9⟩ := bo_facts fD
                have yf : ∀ j, XAB.frozen? ⟨bd, j, none⟩ = false := fun j => by unfold bo at fD; simp [World.frozen?, fD]
                go_simp
                clear y5 y6 y7 y8 y9 yf
                obtain ⟨W9, hXE⟩ : ∃ W, ((((XAB.setCell ⟨bd, 0, none⟩ (.int .i64 (a : Int))).setCell ⟨bd, 1, none⟩ (.int .i64 k)).setCell ⟨bd, 2, none⟩ (.int .i64 z)).setCell ⟨bd, 3, none⟩ (.int .i64 x)).setCell ⟨bd, 4, none⟩ (.int .i64 t) = W := ⟨_, rfl⟩
                have o1 : Out bd (bd + 1) XAB W9 := by rw [← hXE]; exact bo_out _ _ _ _ _ _ _
                have fD2 : W9.heap[bd]? = some (bo (a : Int) k z x t) := by rw [← hXE]; exact bo_set fD _ _ _ _ _
                rw [hXE]
                clear hXE fD
                have fD := fD2
                clear fD2
                refine hK.out _ _ ?hS46 (fun hHeld2 => ?rest46)
                case hS46 => exact ⟨o1.cell hHeld.1 (.inl (by omega)), o1.cell hHeld.2 (.inl (by omega))⟩
                clear hK KK
                (try clear hHeld)
                have hHeld := hHeld2
                clear hHeld2
                (try simp only [Act.put, List.getElem_toArray, List.getElem_cons_zero, List.getElem_cons_succ, List.setIfInBounds_toArray, List.set_cons_zero, List.set_cons_succ])
                refine wpAnyH_take (i := 12) (v := ?v47) rfl (by kernel_rfl) (by kernel_rfl) (by kernel_rfl) (fun _ _ _ h => h) (Or.inl ⟨by rfl, ?hy47⟩) (by assumption) ?rest47
                case hy47 => (intro w hSw; (try dsimp only at hSw); simp only [List.getElem_toArray, List.getElem_cons_zero, List.getElem_cons_succ]; go_simp; (try with_reducible rfl))
                (try simp only [Act.put, List.getElem_toArray, List.getElem_cons_zero, List.getElem_cons_succ, List.setIfInBounds_toArray, List.set_cons_zero, List.set_cons_succ])
                refine wpAnyH_done (by kernel_rfl) ?_ _
                clear hHeld
                have HO9 := hid_mk (HO8.out.trans (OZ.past o1 nD.2.2))
                have fB := (OZ.past o1 nD.2.2).heap HB8.out (.inr (Nat.zero_le _))
                have HB9 := hid_mk (And.intro fB fD)
                obtain ⟨q0, q1, q2, q3, q4⟩ := bo_facts fB
                obtain ⟨p0, p1, p2, p3, p4⟩ := bo_facts fD
                clear OZ o1 nD fB fD c1
                rcases HXs.out with hx0 | ⟨X, hx0, X1, X2⟩
                · subst hx0
                  rcases HLi.out with ⟨hc8, hr0, hr1, hr2⟩ | ⟨hc8, hr1⟩
                  · have hq8 : c ≠ 8 := by omega
                    have s1 : (a : Int) % 64 % (roomN z : Int) = 0 := by rw [← hr1]; rfl
                    have s2 : (a : Int) % 64 + (roomN z : Int) ≤ 64 := hr2
                    clear hr1 hr2
                    go_wp2_with fail
                    have hE := HE.out
                    exact ⟨⟨i + 1, by congr 1, by omega, fd_same (HR.out.1.kept HO9.out (.inr (Nat.zero_le _))) (by rw [hE.2.2.2.1]; omega), ownk HR.out.2.1 HO9.out (Nat.zero_le _), HR.out.2.2.trans HO9.out⟩, by simp [intOf]; omega⟩
                  · subst hc8
                    have s1 : (a : Int) % 64 = 0 := by omega
                    clear hr1
                    go_wp2_with fail
                    have hE := HE.out
                    exact ⟨⟨i + 1, by congr 1, by omega, fd_same (HR.out.1.kept HO9.out (.inr (Nat.zero_le _))) (by rw [hE.2.2.2.1]; omega), ownk HR.out.2.1 HO9.out (Nat.zero_le _), HR.out.2.2.trans HO9.out⟩, by simp [intOf]; omega⟩
                · subst hx0
                  have fR := HR.out.1.kept HO9.out (.inr (Nat.zero_le _))
                  have d0 := fR.cell X2
                  have d1 := fR.frozen X
                  have X3 : (1 : Int) ≤ (X : Int) := by omega
                  have X4 : (X : Int) < (K : Int) := by omega
                  have HFR := hid_mk fR
                  clear fR
                  rcases HLi.out with ⟨hc8, hr0, hr1, hr2⟩ | ⟨hc8, hr1⟩
                  · have hq8 : c ≠ 8 := by omega
                    have s1 : (a : Int) % 64 % (roomN z : Int) = 0 := by rw [← hr1]; rfl
                    have s2 : (a : Int) % 64 + (roomN z : Int) ≤ 64 := hr2
                    clear hr1 hr2
                    go_wp2_with fail
                    clear q0 q1 q2 q3 q4 p0 p1 p2 p3 p4 d0 d1
                    obtain ⟨WA, hWA⟩ : ∃ W, W9.setCell ⟨G, X, none⟩ (.bool true) = W := ⟨_, rfl⟩
                    have HOA : Hid (Out G (G + 1) W9 WA) := by rw [← hWA]; exact (Out.refl _ _ _).setCell (p := ⟨G, X, none⟩) (.inl ⟨Nat.le_refl _, Nat.lt_succ_self _⟩) _
                    have HRA : Hid (Row WA G 4 K (fun j => .bool (fdTo l (i + 1) j))) := by rw [← hWA]; exact fd_row HFR.out (by rw [HE.out.2.2.2.1]; omega) HE.out.2.2.2.1
                    rw [hWA]
                    clear hWA
                    have HO49 := hid_mk ((HR.out.2.2.trans HO9.out).past HOA.out (by have := HGw.out; omega))
                    have HBA := hid_mk (HOA.out.heap HB9.out.1 (.inr (by have := HHG.out; omega)))
                    obtain ⟨t0, t1, t2, t3, t4⟩ := bo_facts HBA.out
                    have c1 := (HW4.out.kept HO49.out (.inr (Nat.zero_le _))).cells.2.1
                    have hsr : (rawOf N st).R (X : Int) = some (a : Int) := by
                      have := ser_at HS4.out.2 HRt.out.2 (i := i) (by omega) (by rw [HE.out.2.2.2.1]; omega)
                      rw [HE.out.2.2.2.1, HE.out.1] at this
                      exact this
                    have HFi := hid_mk (fun W (o : Out 0 0 WA W) => spFind_any (HS4.out.quiet (HO49.out.trans o)).1 (X : Int))
                    rw [hsr] at HFi
                    simp only [Option.getD_some, Option.isSome_some] at HFi
                    clear hsr t0 t1 t2 t4
                    refine wp_region_held_drew (S := fun w' => w'.cell? ⟨b, 1, none⟩ = some (.pointer (some ⟨s 14, 0, none⟩)) ∧ w'.cell? ⟨H, 3, none⟩ = some (.int .i64 (X : Int))) (by kernel_rfl) ?hS48 (fun hHeld => ?rest48)
                    case hS48 => exact ⟨c1, t3⟩
                    obtain ⟨ZA, hZ⟩ : ∃ Z, WA.drew = Z := ⟨_, rfl⟩
                    have OZA : Out 0 0 WA ZA := by rw [← hZ]; exact (Out.refl 0 0 WA).drew
                    rw [hZ] at hHeld ⊢
                    clear hZ
                    refine wpAnyH_take (i := 0) (v := ?v49) rfl (by kernel_rfl) (by kernel_rfl) (by kernel_rfl) (fun _ _ _ h => h) (Or.inl ⟨by rfl, ?hy49⟩) (by assumption) ?rest49
                    case hy49 => (intro w hSw; (try dsimp only at hSw); simp only [List.getElem_toArray, List.getElem_cons_zero, List.getElem_cons_succ]; go_simp; (try with_reducible rfl))
                    (try simp only [Act.put, List.getElem_toArray, List.getElem_cons_zero, List.getElem_cons_succ, List.setIfInBounds_toArray, List.set_cons_zero, List.set_cons_succ])
                    refine wpAnyH_take (i := 1) (v := ?v50) rfl (by kernel_rfl) (by kernel_rfl) (by kernel_rfl) (fun _ _ _ h => h) (Or.inl ⟨by rfl, ?hy50⟩) (by assumption) ?rest50
                    case hy50 => (intro w hSw; (try dsimp only at hSw); simp only [List.getElem_toArray, List.getElem_cons_zero, List.getElem_cons_succ]; go_simp; (try with_reducible rfl))
                    (try simp only [Act.put, List.getElem_toArray, List.getElem_cons_zero, List.getElem_cons_succ, List.setIfInBounds_toArray, List.set_cons_zero, List.set_cons_succ])
                    refine wpAnyH_take (i := 2) (v := ?v51) rfl (by kernel_rfl) (by kernel_rfl) (by kernel_rfl) (fun _ _ _ h => h) (Or.inl ⟨by rfl, ?hy51⟩) (by assumption) ?rest51
                    case hy51 => (intro w hSw; (try dsimp only at hSw); simp only [List.getElem_toArray, List.getElem_cons_zero, List.getElem_cons_succ]; go_simp; (try with_reducible rfl))
                    (try simp only [Act.put, List.getElem_toArray, List.getElem_cons_zero, List.getElem_cons_succ, List.setIfInBounds_toArray, List.set_cons_zero, List.set_cons_succ])
                    refine wpAnyH_take (i := 3) (v := ?v52) rfl (by kernel_rfl) (by kernel_rfl) (by kernel_rfl) (fun _ _ _ h => h) (Or.inl ⟨by rfl, ?hy52⟩) (by assumption) ?rest52
                    case hy52 => (intro w hSw; (try dsimp only at hSw); simp only [List.getElem_toArray, List.getElem_cons_zero, List.getElem_cons_succ]; go_simp; (try with_reducible rfl))
                    (try simp only [Act.put, List.getElem_toArray, List.getElem_cons_zero, List.getElem_cons_succ, List.setIfInBounds_toArray, List.set_cons_zero, List.set_cons_succ])
                    refine wpAnyH_take (i := 4) (v := ?v53) rfl (by kernel_rfl) (by kernel_rfl) (by kernel_rfl) (fun _ _ _ h => h) (Or.inl ⟨by rfl, ?hy53⟩) (by assumption) ?rest53
                    case hy53 => (intro w hSw; (try dsimp only at hSw); simp only [List.getElem_toArray, List.getElem_cons_zero, List.getElem_cons_succ]; go_simp; (try with_reducible rfl))
                    (try simp only [Act.put, List.getElem_toArray, List.getElem_cons_zero, List.getElem_cons_succ, List.setIfInBounds_toArray, List.set_cons_zero, List.set_cons_succ])
                    refine wpAnyH_take (i := 5) (v := ?v54) rfl (by kernel_rfl) (by kernel_rfl) (by kernel_rfl) (fun _ _ _ h => h) (Or.inl ⟨by rfl, ?hy54⟩) (by assumption) ?rest54
                    case hy54 => (intro w hSw; (try dsimp only at hSw); simp only [List.getElem_toArray, List.getElem_cons_zero, List.getElem_cons_succ]; go_simp; (try with_reducible rfl))
                    (try simp only [Act.put, List.getElem_toArray, List.getElem_cons_zero, List.getElem_cons_succ, List.setIfInBounds_toArray, List.set_cons_zero, List.set_cons_succ])
                    refine wpAnyH_ready (rs := [6]) (by kernel_rfl) (by simp) ?_
                    refine AllReadyH.cons rfl (fun KK hK => ?_) AllReadyH.nil
                    simp only [List.getElem_toArray, List.getElem_cons_zero, List.getElem_cons_succ]
                    go_simp
                    refine (HFi.out _ OZA).mono ?_
                    rintro e w5 ⟨rfl, he⟩
                    rw [he]
                    clear he w5
                    refine hK.out _ _ ?hS55 (fun hHeld2 => ?rest55)
                    case hS55 => exact hHeld
                    clear hK KK
                    (try clear hHeld)
                    have hHeld := hHeld2
                    clear hHeld2
                    (try simp only [Act.put, List.getElem_toArray, List.getElem_cons_zero, List.getElem_cons_succ, List.setIfInBounds_toArray, List.set_cons_zero, List.set_cons_succ])
                    refine wpAnyH_take (i := 7) (v := ?v56) rfl (by kernel_rfl) (by kernel_rfl) (by kernel_rfl) (fun _ _ _ h => h) (Or.inl ⟨by rfl, ?hy56⟩) (by assumption) ?rest56
                    case hy56 => (intro w hSw; (try dsimp only at hSw); simp only [List.getElem_toArray, List.getElem_cons_zero, List.getElem_cons_succ]; go_simp; (try with_reducible rfl))
                    (try simp only [Act.put, List.getElem_toArray, List.getElem_cons_zero, List.getElem_cons_succ, List.setIfInBounds_toArray, List.set_cons_zero, List.set_cons_succ])
                    refine wpAnyH_take (i := 8) (v := ?v57) rfl (by kernel_rfl) (by kernel_rfl) (by kernel_rfl) (fun _ _ _ h => h) (Or.inl ⟨by rfl, ?hy57⟩) (by assumption) ?rest57
                    case hy57 => (intro w hSw; (try dsimp only at hSw); simp only [List.getElem_toArray, List.getElem_cons_zero, List.getElem_cons_succ]; go_simp; (try with_reducible rfl))
                    (try simp only [Act.put, List.getElem_toArray, List.getElem_cons_zero, List.getElem_cons_succ, List.setIfInBounds_toArray, List.set_cons_zero, List.set_cons_succ])
                    refine wpAnyH_take (i := 9) (v := ?v58) rfl (by kernel_rfl) (by kernel_rfl) (by kernel_rfl) (fun _ _ _ h => h) (Or.inl ⟨by rfl, ?hy58⟩) (by assumption) ?rest58
                    case hy58 => (intro w hSw; (try dsimp only at hSw); simp only [List.getElem_toArray, List.getElem_cons_zero, List.getElem_cons_succ]; go_simp; (try with_reducible rfl))
                    (try simp only [Act.put, List.getElem_toArray, List.getElem_cons_zero, List.getElem_cons_succ, List.setIfInBounds_toArray, List.set_cons_zero, List.set_cons_succ])
                    refine wpAnyH_take (i := 10) (v := ?v59) rfl (by kernel_rfl) (by kernel_rfl) (by kernel_rfl) (fun _ _ _ h => h) (Or.inl ⟨by rfl, ?hy59⟩) (by assumption) ?rest59
                    case hy59 => (intro w hSw; (try dsimp only at hSw); simp only [List.getElem_toArray, List.getElem_cons_zero, List.getElem_cons_succ]; go_simp; (try with_reducible rfl))
                    (try simp only [Act.put, List.getElem_toArray, List.getElem_cons_zero, List.getElem_cons_succ, List.setIfInBounds_toArray, List.set_cons_zero, List.set_cons_succ])
                    refine wpAnyH_take (i := 11) (v := ?v60) rfl (by kernel_rfl) (by kernel_rfl) (by kernel_rfl) (fun _ _ _ h => h) (Or.inl ⟨by rfl, ?hy60⟩) (by assumption) ?rest60
                    case hy60 => (intro w hSw; (try dsimp only at hSw); simp only [List.getElem_toArray, List.getElem_cons_zero, List.getElem_cons_succ]; go_simp; (try with_reducible rfl))
                    (try simp only [Act.put, List.getElem_toArray, List.getElem_cons_zero, List.getElem_cons_succ, List.setIfInBounds_toArray, List.set_cons_zero, List.set_cons_succ])
                    refine wpAnyH_done (by kernel_rfl) ?_ _
                    clear hHeld
                    obtain ⟨t0, t1, t2, t3, t4⟩ := bo_facts (OZA.heap HBA.out (.inr (Nat.zero_le _)))
                    have HZA := hid_mk OZA
                    clear OZA c1
                    go_wp2_with fail
                    exact ⟨⟨i + 1, by congr 1, by omega, HRA.out.kept HZA.out (.inr (Nat.zero_le _)), ownk (ownk (ownk HR.out.2.1 HO9.out (Nat.zero_le _)) HOA.out (Nat.le_refl _)) HZA.out (Nat.zero_le _), HO49.out.trans HZA.out⟩, by simp [intOf]; omega⟩
                  · subst hc8
                    have s1 : (a : Int) % 64 = 0 := by omega
                    clear hr1
                    go_wp2_with fail
                    clear q0 q1 q2 q3 q4 p0 p1 p2 p3 p4 d0 d1
                    obtain ⟨WA, hWA⟩ : ∃ W, W9.setCell ⟨G, X, none⟩ (.bool true) = W := ⟨_, rfl⟩
                    have HOA : Hid (Out G (G + 1) W9 WA) := by rw [← hWA]; exact (Out.refl _ _ _).setCell (p := ⟨G, X, none⟩) (.inl ⟨Nat.le_refl _, Nat.lt_succ_self _⟩) _
                    have HRA : Hid (Row WA G 4 K (fun j => .bool (fdTo l (i + 1) j))) := by rw [← hWA]; exact fd_row HFR.out (by rw [HE.out.2.2.2.1]; omega) HE.out.2.2.2.1
                    rw [hWA]
                    clear hWA
                    have HO49 := hid_mk ((HR.out.2.2.trans HO9.out).past HOA.out (by have := HGw.out; omega))
                    have HBA := hid_mk (HOA.out.heap HB9.out.1 (.inr (by have := HHG.out; omega)))
                    obtain ⟨t0, t1, t2, t3, t4⟩ := bo_facts HBA.out
                    have c1 := (HW4.out.kept HO49.out (.inr (Nat.zero_le _))).cells.2.1
                    have hsr : (rawOf N st).R (X : Int) = some (a : Int) := by
                      have := ser_at HS4.out.2 HRt.out.2 (i := i) (by omega) (by rw [HE.out.2.2.2.1]; omega)
                      rw [HE.out.2.2.2.1, HE.out.1] at this
                      exact this
                    have HFi := hid_mk (fun W (o : Out 0 0 WA W) => spFind_any (HS4.out.quiet (HO49.out.trans o)).1 (X : Int))
                    rw [hsr] at HFi
                    simp only [Option.getD_some, Option.isSome_some] at HFi
                    clear hsr t0 t1 t2 t4
                    refine wp_region_held_drew (S := fun w' => w'.cell? ⟨b, 1, none⟩ = some (.pointer (some ⟨s 14, 0, none⟩)) ∧ w'.cell? ⟨H, 3, none⟩ = some (.int .i64 (X : Int))) (by kernel_rfl) ?hS61 (fun hHeld => ?rest61)
                    case hS61 => exact ⟨c1, t3⟩
                    obtain ⟨ZA, hZ⟩ : ∃ Z, WA.drew = Z := ⟨_, rfl⟩
                    have OZA : Out 0 0 WA ZA := by rw [← hZ]; exact (Out.refl 0 0 WA).drew
                    rw [hZ] at hHeld ⊢
                    clear hZ
                    refine wpAnyH_take (i := 0) (v := ?v62) rfl (by kernel_rfl) (by kernel_rfl) (by kernel_rfl) (fun _ _ _ h => h) (Or.inl ⟨by rfl, ?hy62⟩) (by assumption) ?rest62
                    case hy62 => (intro w hSw; (try dsimp only at hSw); simp only [List.getElem_toArray, List.getElem_cons_zero, List.getElem_cons_succ]; go_simp; (try with_reducible rfl))
                    (try simp only [Act.put, List.getElem_toArray, List.getElem_cons_zero, List.getElem_cons_succ, List.setIfInBounds_toArray, List.set_cons_zero, List.set_cons_succ])
                    refine wpAnyH_take (i := 1) (v := ?v63) rfl (by kernel_rfl) (by kernel_rfl) (by kernel_rfl) (fun _ _ _ h => h) (Or.inl ⟨by rfl, ?hy63⟩) (by assumption) ?rest63
                    case hy63 => (intro w hSw; (try dsimp only at hSw); simp only [List.getElem_toArray, List.getElem_cons_zero, List.getElem_cons_succ]; go_simp; (try with_reducible rfl))
                    (try simp only [Act.put, List.getElem_toArray, List.getElem_cons_zero, List.getElem_cons_succ, List.setIfInBounds_toArray, List.set_cons_zero, List.set_cons_succ])
                    refine wpAnyH_take (i := 2) (v := ?v64) rfl (by kernel_rfl) (by kernel_rfl) (by kernel_rfl) (fun _ _ _ h => h) (Or.inl ⟨by rfl, ?hy64⟩) (by assumption) ?rest64
                    case hy64 => (intro w hSw; (try dsimp only at hSw); simp only [List.getElem_toArray, List.getElem_cons_zero, List.getElem_cons_succ]; go_simp; (try with_reducible rfl))
                    (try simp only [Act.put, List.getElem_toArray, List.getElem_cons_zero, List.getElem_cons_succ, List.setIfInBounds_toArray, List.set_cons_zero, List.set_cons_succ])
                    refine wpAnyH_take (i := 3) (v := ?v65) rfl (by kernel_rfl) (by kernel_rfl) (by kernel_rfl) (fun _ _ _ h => h) (Or.inl ⟨by rfl, ?hy65⟩) (by assumption) ?rest65
                    case hy65 => (intro w hSw; (try dsimp only at hSw); simp only [List.getElem_toArray, List.getElem_cons_zero, List.getElem_cons_succ]; go_simp; (try with_reducible rfl))
                    (try simp only [Act.put, List.getElem_toArray, List.getElem_cons_zero, List.getElem_cons_succ, List.setIfInBounds_toArray, List.set_cons_zero, List.set_cons_succ])
                    refine wpAnyH_take (i := 4) (v := ?v66) rfl (by kernel_rfl) (by kernel_rfl) (by kernel_rfl) (fun _ _ _ h => h) (Or.inl ⟨by rfl, ?hy66⟩) (by assumption) ?rest66
                    case hy66 => (intro w hSw; (try dsimp only at hSw); simp only [List.getElem_toArray, List.getElem_cons_zero, List.getElem_cons_succ]; go_simp; (try with_reducible rfl))
                    (try simp only [Act.put, List.getElem_toArray, List.getElem_cons_zero, List.getElem_cons_succ, List.setIfInBounds_toArray, List.set_cons_zero, List.set_cons_succ])
                    refine wpAnyH_take (i := 5) (v := ?v67) rfl (by kernel_rfl) (by kernel_rfl) (by kernel_rfl) (fun _ _ _ h => h) (Or.inl ⟨by rfl, ?hy67⟩) (by assumption) ?rest67
                    case hy67 => (intro w hSw; (try dsimp only at hSw); simp only [List.getElem_toArray, List.getElem_cons_zero, List.getElem_cons_succ]; go_simp; (try with_reducible rfl))
                    (try simp only [Act.put, List.getElem_toArray, List.getElem_cons_zero, List.getElem_cons_succ, List.setIfInBounds_toArray, List.set_cons_zero, List.set_cons_succ])
                    refine wpAnyH_ready (rs := [6]) (by kernel_rfl) (by simp) ?_
                    refine AllReadyH.cons rfl (fun KK hK => ?_) AllReadyH.nil
                    simp only [List.getElem_toArray, List.getElem_cons_zero, List.getElem_cons_succ]
                    go_simp
                    refine (HFi.out _ OZA).mono ?_
                    rintro e w5 ⟨rfl, he⟩
                    rw [he]
                    clear he w5
                    refine hK.out _ _ ?hS68 (fun hHeld2 => ?rest68)
                    case hS68 => exact hHeld
                    clear hK KK
                    (try clear hHeld)
                    have hHeld := hHeld2
                    clear hHeld2
                    (try simp only [Act.put, List.getElem_toArray, List.getElem_cons_zero, List.getElem_cons_succ, List.setIfInBounds_toArray, List.set_cons_zero, List.set_cons_succ])
                    refine wpAnyH_take (i := 7) (v := ?v69) rfl (by kernel_rfl) (by kernel_rfl) (by kernel_rfl) (fun _ _ _ h => h) (Or.inl ⟨by rfl, ?hy69⟩) (by assumption) ?rest69
                    case hy69 => (intro w hSw; (try dsimp only at hSw); simp only [List.getElem_toArray, List.getElem_cons_zero, List.getElem_cons_succ]; go_simp; (try with_reducible rfl))
                    (try simp only [Act.put, List.getElem_toArray, List.getElem_cons_zero, List.getElem_cons_succ, List.setIfInBounds_toArray, List.set_cons_zero, List.set_cons_succ])
                    refine wpAnyH_take (i := 8) (v := ?v70) rfl (by kernel_rfl) (by kernel_rfl) (by kernel_rfl) (fun _ _ _ h => h) (Or.inl ⟨by rfl, ?hy70⟩) (by assumption) ?rest70
                    case hy70 => (intro w hSw; (try dsimp only at hSw); simp only [List.getElem_toArray, List.getElem_cons_zero, List.getElem_cons_succ]; go_simp; (try with_reducible rfl))
                    (try simp only [Act.put, List.getElem_toArray, List.getElem_cons_zero, List.getElem_cons_succ, List.setIfInBounds_toArray, List.set_cons_zero, List.set_cons_succ])
                    refine wpAnyH_take (i := 9) (v := ?v71) rfl (by kernel_rfl) (by kernel_rfl) (by kernel_rfl) (fun _ _ _ h => h) (Or.inl ⟨by rfl, ?hy71⟩) (by assumption) ?rest71
                    case hy71 => (intro w hSw; (try dsimp only at hSw); simp only [List.getElem_toArray, List.getElem_cons_zero, List.getElem_cons_succ]; go_simp; (try with_reducible rfl))
                    (try simp only [Act.put, List.getElem_toArray, List.getElem_cons_zero, List.getElem_cons_succ, List.setIfInBounds_toArray, List.set_cons_zero, List.set_cons_succ])
                    refine wpAnyH_take (i := 10) (v := ?v72) rfl (by kernel_rfl) (by kernel_rfl) (by kernel_rfl) (fun _ _ _ h => h) (Or.inl ⟨by rfl, ?hy72⟩) (by assumption) ?rest72
                    case hy72 => (intro w hSw; (try dsimp only at hSw); simp only [List.getElem_toArray, List.getElem_cons_zero, List.getElem_cons_succ]; go_simp; (try with_reducible rfl))
                    (try simp only [Act.put, List.getElem_toArray, List.getElem_cons_zero, List.getElem_cons_succ, List.setIfInBounds_toArray, List.set_cons_zero, List.set_cons_succ])
                    refine wpAnyH_take (i := 11) (v := ?v73) rfl (by kernel_rfl) (by kernel_rfl) (by kernel_rfl) (fun _ _ _ h => h) (Or.inl ⟨by rfl, ?hy73⟩) (by assumption) ?rest73
                    case hy73 => (intro w hSw; (try dsimp only at hSw); simp only [List.getElem_toArray, List.getElem_cons_zero, List.getElem_cons_succ]; go_simp; (try with_reducible rfl))
                    (try simp only [Act.put, List.getElem_toArray, List.getElem_cons_zero, List.getElem_cons_succ, List.setIfInBounds_toArray, List.set_cons_zero, List.set_cons_succ])
                    refine wpAnyH_done (by kernel_rfl) ?_ _
                    clear hHeld
                    obtain ⟨t0, t1, t2, t3, t4⟩ := bo_facts (OZA.heap HBA.out (.inr (Nat.zero_le _)))
                    have HZA := hid_mk OZA
                    clear OZA c1
                    go_wp2_with fail
                    exact ⟨⟨i + 1, by congr 1, by omega, HRA.out.kept HZA.out (.inr (Nat.zero_le _)), ownk (ownk (ownk HR.out.2.1 HO9.out (Nat.zero_le _)) HOA.out (Nat.le_refl _)) HZA.out (Nat.zero_le _), HO49.out.trans HZA.out⟩, by simp [intOf]; omega⟩
              · exact AllReadyH.nil
            · exact AllReadyH.nil
          · exact AllReadyH.nil
      · have e : i = m := by omega
        subst e
        have HR := hid_mk (And.intro r1 (And.intro r2 r3))
        clear r1 r2 r3
        go_wp2_with fail
        clear c2
        go_loopw [17] (fun u wq => ∃ j : Nat, u = .int .i64 (j : Int) ∧ j ≤ i ∧ Out 0 0 wr wq) (fun u _ => i - (intOf u).toNat)
        case atStart => exact ⟨0, rfl, Nat.zero_le _, Out.refl _ _ _⟩
        case round =>
          obtain ⟨j, rfl, j1, r3⟩ := hrel
          have j0 : (0 : Int) ≤ (j : Int) := by omega
          have HQ := hid_mk r3
          have hL := ownk HR.out.2.1 r3 (Nat.zero_le _)
          clear r3
          by_cases hj : j < i
          · have j2 : (j : Int) < (i : Int) := by omega
            have hln := objs_all HS4.out.2 HRt.out.2
            obtain ⟨po', pc', hv, hcel⟩ := own_at5' (l := objsTo (rawOf N st) (64 * N)) hL
            rw [hln, hm] at hv hcel
            cases hv
            by_cases hz : j = 0
            · subst hz
              clear hcel hL hln
              go_wp2_with fail
              refine wp_region_held_drew (S := fun _ => True) (by kernel_rfl) ?hS91 (fun hHeld => ?rest91)
              case hS91 => trivial
              refine wpAnyH_take (i := 0) (v := ?v92) rfl (by kernel_rfl) (by kernel_rfl) (by kernel_rfl) (fun _ _ _ h => h) (Or.inl ⟨by rfl, ?hy92⟩) (by assumption) ?rest92
              case hy92 => (intro w hSw; (try dsimp only at hSw); simp only [List.getElem_toArray, List.getElem_cons_zero, List.getElem_cons_succ]; go_simp; (try with_reducible rfl))
              (try simp only [Act.put, List.getElem_toArray, List.getElem_cons_zero, List.getElem_cons_succ, List.setIfInBounds_toArray, List.set_cons_zero, List.set_cons_succ])
              refine wpAnyH_take (i := 1) (v := ?v93) rfl (by kernel_rfl) (by kernel_rfl) (by kernel_rfl) (fun _ _ _ h => h) (Or.inl ⟨by rfl, ?hy93⟩) (by assumption) ?rest93
              case hy93 => (intro w hSw; (try dsimp only at hSw); simp only [List.getElem_toArray, List.getElem_cons_zero, List.getElem_cons_succ]; go_simp; (try with_reducible rfl))
              (try simp only [Act.put, List.getElem_toArray, List.getElem_cons_zero, List.getElem_cons_succ, List.setIfInBounds_toArray, List.set_cons_zero, List.set_cons_succ])
              refine wpAnyH_take (i := 2) (v := ?v94) rfl (by kernel_rfl) (by kernel_rfl) (by kernel_rfl) (fun _ _ _ h => h) (Or.inl ⟨by rfl, ?hy94⟩) (by assumption) ?rest94
              case hy94 => (intro w hSw; (try dsimp only at hSw); simp only [List.getElem_toArray, List.getElem_cons_zero, List.getElem_cons_succ]; go_simp; (try with_reducible rfl))
              (try simp only [Act.put, List.getElem_toArray, List.getElem_cons_zero, List.getElem_cons_succ, List.setIfInBounds_toArray, List.set_cons_zero, List.set_cons_succ])
              refine wpAnyH_take (i := 3) (v := undef) rfl (by kernel_rfl) (by kernel_rfl) (by kernel_rfl) (fun _ _ _ h => h) (Or.inr ⟨by rfl, rfl⟩) (by assumption) ?rest95
              (try simp only [Act.put, List.getElem_toArray, List.getElem_cons_zero, List.getElem_cons_succ, List.setIfInBounds_toArray, List.set_cons_zero, List.set_cons_succ])
              refine wpAnyH_take (i := 4) (v := undef) rfl (by kernel_rfl) (by kernel_rfl) (by kernel_rfl) (fun _ _ _ h => h) (Or.inr ⟨by rfl, rfl⟩) (by assumption) ?rest96
              (try simp only [Act.put, List.getElem_toArray, List.getElem_cons_zero, List.getElem_cons_succ, List.setIfInBounds_toArray, List.set_cons_zero, List.set_cons_succ])
              refine wpAnyH_take (i := 5) (v := undef) rfl (by kernel_rfl) (by kernel_rfl) (by kernel_rfl) (fun _ _ _ h => h) (Or.inr ⟨by rfl, rfl⟩) (by assumption) ?rest97
              (try simp only [Act.put, List.getElem_toArray, List.getElem_cons_zero, List.getElem_cons_succ, List.setIfInBounds_toArray, List.set_cons_zero, List.set_cons_succ])
              refine wpAnyH_take (i := 6) (v := undef) rfl (by kernel_rfl) (by kernel_rfl) (by kernel_rfl) (fun _ _ _ h => h) (Or.inr ⟨by rfl, rfl⟩) (by assumption) ?rest98
              (try simp only [Act.put, List.getElem_toArray, List.getElem_cons_zero, List.getElem_cons_succ, List.setIfInBounds_toArray, List.set_cons_zero, List.set_cons_succ])
              refine wpAnyH_take (i := 7) (v := undef) rfl (by kernel_rfl) (by kernel_rfl) (by kernel_rfl) (fun _ _ _ h => h) (Or.inr ⟨by rfl, rfl⟩) (by assumption) ?rest99
              (try simp only [Act.put, List.getElem_toArray, List.getElem_cons_zero, List.getElem_cons_succ, List.setIfInBounds_toArray, List.set_cons_zero, List.set_cons_succ])
              refine wpAnyH_take (i := 8) (v := undef) rfl (by kernel_rfl) (by kernel_rfl) (by kernel_rfl) (fun _ _ _ h => h) (Or.inr ⟨by rfl, rfl⟩) (by assumption) ?rest100
              (try simp only [Act.put, List.getElem_toArray, List.getElem_cons_zero, List.getElem_cons_succ, List.setIfInBounds_toArray, List.set_cons_zero, List.set_cons_succ])
              refine wpAnyH_take (i := 9) (v := undef) rfl (by kernel_rfl) (by kernel_rfl) (by kernel_rfl) (fun _ _ _ h => h) (Or.inr ⟨by rfl, rfl⟩) (by assumption) ?rest101
              (try simp only [Act.put, List.getElem_toArray, List.getElem_cons_zero, List.getElem_cons_succ, List.setIfInBounds_toArray, List.set_cons_zero, List.set_cons_succ])
              refine wpAnyH_take (i := 10) (v := undef) rfl (by kernel_rfl) (by kernel_rfl) (by kernel_rfl) (fun _ _ _ h => h) (Or.inr ⟨by rfl, rfl⟩) (by assumption) ?rest102
              (try simp only [Act.put, List.getElem_toArray, List.getElem_cons_zero, List.getElem_cons_succ, List.setIfInBounds_toArray, List.set_cons_zero, List.set_cons_succ])
              refine wpAnyH_take (i := 11) (v := undef) rfl (by kernel_rfl) (by kernel_rfl) (by kernel_rfl) (fun _ _ _ h => h) (Or.inr ⟨by rfl, rfl⟩) (by assumption) ?rest103
              (try simp only [Act.put, List.getElem_toArray, List.getElem_cons_zero, List.getElem_cons_succ, List.setIfInBounds_toArray, List.set_cons_zero, List.set_cons_succ])
              refine wpAnyH_take (i := 12) (v := undef) rfl (by kernel_rfl) (by kernel_rfl) (by kernel_rfl) (fun _ _ _ h => h) (Or.inr ⟨by rfl, rfl⟩) (by assumption) ?rest104
              (try simp only [Act.put, List.getElem_toArray, List.getElem_cons_zero, List.getElem_cons_succ, List.setIfInBounds_toArray, List.set_cons_zero, List.set_cons_succ])
              refine wpAnyH_take (i := 13) (v := undef) rfl (by kernel_rfl) (by kernel_rfl) (by kernel_rfl) (fun _ _ _ h => h) (Or.inr ⟨by rfl, rfl⟩) (by assumption) ?rest105
              (try simp only [Act.put, List.getElem_toArray, List.getElem_cons_zero, List.getElem_cons_succ, List.setIfInBounds_toArray, List.set_cons_zero, List.set_cons_succ])
              refine wpAnyH_take (i := 14) (v := undef) rfl (by kernel_rfl) (by kernel_rfl) (by kernel_rfl) (fun _ _ _ h => h) (Or.inr ⟨by rfl, rfl⟩) (by assumption) ?rest106
              (try simp only [Act.put, List.getElem_toArray, List.getElem_cons_zero, List.getElem_cons_succ, List.setIfInBounds_toArray, List.set_cons_zero, List.set_cons_succ])
              refine wpAnyH_take (i := 15) (v := ?v107) rfl (by kernel_rfl) (by kernel_rfl) (by kernel_rfl) (fun _ _ _ h => h) (Or.inl ⟨by rfl, ?hy107⟩) (by assumption) ?rest107
              case hy107 => (intro w hSw; (try dsimp only at hSw); simp only [List.getElem_toArray, List.getElem_cons_zero, List.getElem_cons_succ]; go_simp; (try with_reducible rfl))
              (try simp only [Act.put, List.getElem_toArray, List.getElem_cons_zero, List.getElem_cons_succ, List.setIfInBounds_toArray, List.set_cons_zero, List.set_cons_succ])
              refine wpAnyH_done (by kernel_rfl) ?_ _
              clear hHeld
              have HZB := hid_mk ((Out.refl 0 0 wr).drew)
              go_wp2_with fail
              exact ⟨⟨0 + 1, by congr 1, by omega, HQ.out.trans HZB.out⟩, by simp [intOf]; omega⟩
            · obtain ⟨y, hy⟩ : ∃ y : Nat, j = y + 1 := ⟨j - 1, by omega⟩
              have y0 : (j : Int) - 1 = (y : Int) := by omega
              obtain ⟨gq, hq1, _, _, e0, _⟩ := hcel j hj
              obtain ⟨gq', hq2, _, _, e1, _⟩ := hcel y (by omega)
              subst hq1
              cases hq2
              have hlt := objs_lt (r := rawOf N st) (p := 64 * N) (i := y) (by rw [hln, hm]; omega)
              rw [← hy] at hlt
              obtain ⟨A, hA⟩ : ∃ A : Int, ((atB (objsTo (rawOf N st) (64 * N)) j).1 : Int) = A := ⟨_, rfl⟩
              obtain ⟨B, hB⟩ : ∃ B : Int, ((atB (objsTo (rawOf N st) (64 * N)) y).1 : Int) = B := ⟨_, rfl⟩
              have AB : B < A := by omega
              have AB2 : decide (A ≤ B) = false := decide_eq_false (by omega)
              have AB3 : ¬ A ≤ B := by omega
              rw [hA] at e0
              rw [hB] at e1
              have y1 : (0 : Int) ≤ (y : Int) := by omega
              have y2 : (y : Int) < (i : Int) := by omega
              have j3 : (0 : Int) < (j : Int) := by omega
              have y3 : (0 : Int) ≤ (y : Int) + 1 := by omega
              have y4 : (y : Int) + 1 < (i : Int) := by omega
              have y5 : (0 : Int) < (y : Int) + 1 := by omega
              have y6 : IntKind.i64.wrap (y : Int) = (y : Int) := by simp [IntKind.wrap, IntKind.signed, IntKind.bits]; omega
              clear hcel hL hln hlt hA hB hz y0 j3
              subst hy
              go_wp2_with fail
              refine wp_region_held_drew (S := fun w' => w'.cell? ⟨gq, (y + 1) * 5, none⟩ = some (.int .i64 A) ∧ w'.cell? ⟨gq, y * 5, none⟩ = some (.int .i64 B)) (by kernel_rfl) ?hS74 (fun hHeld => ?rest74)
              case hS74 => exact ⟨e0, e1⟩
              refine wpAnyH_take (i := 0) (v := ?v75) rfl (by kernel_rfl) (by kernel_rfl) (by kernel_rfl) (fun _ _ _ h => h) (Or.inl ⟨by rfl, ?hy75⟩) (by assumption) ?rest75
              case hy75 => (intro w hSw; (try dsimp only at hSw); simp only [List.getElem_toArray, List.getElem_cons_zero, List.getElem_cons_succ]; go_simp; (try with_reducible rfl))
              (try simp only [Act.put, List.getElem_toArray, List.getElem_cons_zero, List.getElem_cons_succ, List.setIfInBounds_toArray, List.set_cons_zero, List.set_cons_succ])
              refine wpAnyH_take (i := 1) (v := ?v76) rfl (by kernel_rfl) (by kernel_rfl) (by kernel_rfl) (fun _ _ _ h => h) (Or.inl ⟨by rfl, ?hy76⟩) (by assumption) ?rest76
              case hy76 => (intro w hSw; (try dsimp only at hSw); simp only [List.getElem_toArray, List.getElem_cons_zero, List.getElem_cons_succ]; go_simp; (try with_reducible rfl))
              (try simp only [Act.put, List.getElem_toArray, List.getElem_cons_zero, List.getElem_cons_succ, List.setIfInBounds_toArray, List.set_cons_zero, List.set_cons_succ])
              refine wpAnyH_take (i := 2) (v := ?v77) rfl (by kernel_rfl) (by kernel_rfl) (by kernel_rfl) (fun _ _ _ h => h) (Or.inl ⟨by rfl, ?hy77⟩) (by assumption) ?rest77
              case hy77 => (intro w hSw; (try dsimp only at hSw); simp only [List.getElem_toArray, List.getElem_cons_zero, List.getElem_cons_succ]; go_simp; (try with_reducible rfl))
              (try simp only [Act.put, List.getElem_toArray, List.getElem_cons_zero, List.getElem_cons_succ, List.setIfInBounds_toArray, List.set_cons_zero, List.set_cons_succ])
              refine wpAnyH_take (i := 3) (v := ?v78) rfl (by kernel_rfl) (by kernel_rfl) (by kernel_rfl) (fun _ _ _ h => h) (Or.inl ⟨by rfl, ?hy78⟩) (by assumption) ?rest78
              case hy78 => (intro w hSw; (try dsimp only at hSw); simp only [List.getElem_toArray, List.getElem_cons_zero, List.getElem_cons_succ]; go_simp; (try with_reducible rfl))
              (try simp only [Act.put, List.getElem_toArray, List.getElem_cons_zero, List.getElem_cons_succ, List.setIfInBounds_toArray, List.set_cons_zero, List.set_cons_succ])
              refine wpAnyH_take (i := 4) (v := ?v79) rfl (by kernel_rfl) (by kernel_rfl) (by kernel_rfl) (fun _ _ _ h => h) (Or.inl ⟨by rfl, ?hy79⟩) (by assumption) ?rest79
              case hy79 => (intro w hSw; (try dsimp only at hSw); simp only [List.getElem_toArray, List.getElem_cons_zero, List.getElem_cons_succ]; go_simp; (try with_reducible rfl))
              (try simp only [Act.put, List.getElem_toArray, List.getElem_cons_zero, List.getElem_cons_succ, List.setIfInBounds_toArray, List.set_cons_zero, List.set_cons_succ])
              refine wpAnyH_take (i := 5) (v := ?v80) rfl (by kernel_rfl) (by kernel_rfl) (by kernel_rfl) (fun _ _ _ h => h) (Or.inl ⟨by rfl, ?hy80⟩) (by assumption) ?rest80
              case hy80 => (intro w hSw; (try dsimp only at hSw); simp only [List.getElem_toArray, List.getElem_cons_zero, List.getElem_cons_succ]; go_simp; (try with_reducible rfl))
              (try simp only [Act.put, List.getElem_toArray, List.getElem_cons_zero, List.getElem_cons_succ, List.setIfInBounds_toArray, List.set_cons_zero, List.set_cons_succ])
              refine wpAnyH_take (i := 6) (v := ?v81) rfl (by kernel_rfl) (by kernel_rfl) (by kernel_rfl) (fun _ _ _ h => h) (Or.inl ⟨by rfl, ?hy81⟩) (by assumption) ?rest81
              case hy81 => (intro w hSw; (try dsimp only at hSw); simp only [List.getElem_toArray, List.getElem_cons_zero, List.getElem_cons_succ]; go_simp; (try with_reducible rfl))
              (try simp only [Act.put, List.getElem_toArray, List.getElem_cons_zero, List.getElem_cons_succ, List.setIfInBounds_toArray, List.set_cons_zero, List.set_cons_succ])
              refine wpAnyH_take (i := 7) (v := ?v82) rfl (by kernel_rfl) (by kernel_rfl) (by kernel_rfl) (fun _ _ _ h => h) (Or.inl ⟨by rfl, ?hy82⟩) (by assumption) ?rest82
              case hy82 => (intro w hSw; (try dsimp only at hSw); simp only [List.getElem_toArray, List.getElem_cons_zero, List.getElem_cons_succ]; go_simp; (try with_reducible rfl))
              (try simp only [Act.put, List.getElem_toArray, List.getElem_cons_zero, List.getElem_cons_succ, List.setIfInBounds_toArray, List.set_cons_zero, List.set_cons_succ])
              refine wpAnyH_take (i := 8) (v := ?v83) rfl (by kernel_rfl) (by kernel_rfl) (by kernel_rfl) (fun _ _ _ h => h) (Or.inl ⟨by rfl, ?hy83⟩) (by assumption) ?rest83
              case hy83 => (intro w hSw; (try dsimp only at hSw); simp only [List.getElem_toArray, List.getElem_cons_zero, List.getElem_cons_succ]; go_simp; (try with_reducible rfl))
              (try simp only [Act.put, List.getElem_toArray, List.getElem_cons_zero, List.getElem_cons_succ, List.setIfInBounds_toArray, List.set_cons_zero, List.set_cons_succ])
              refine wpAnyH_take (i := 9) (v := ?v84) rfl (by kernel_rfl) (by kernel_rfl) (by kernel_rfl) (fun _ _ _ h => h) (Or.inl ⟨by rfl, ?hy84⟩) (by assumption) ?rest84
              case hy84 => (intro w hSw; (try dsimp only at hSw); simp only [List.getElem_toArray, List.getElem_cons_zero, List.getElem_cons_succ]; go_simp; (try with_reducible rfl))
              (try simp only [Act.put, List.getElem_toArray, List.getElem_cons_zero, List.getElem_cons_succ, List.setIfInBounds_toArray, List.set_cons_zero, List.set_cons_succ])
              refine wpAnyH_take (i := 10) (v := ?v85) rfl (by kernel_rfl) (by kernel_rfl) (by kernel_rfl) (fun _ _ _ h => h) (Or.inl ⟨by rfl, ?hy85⟩) (by assumption) ?rest85
              case hy85 => (intro w hSw; (try dsimp only at hSw); simp only [List.getElem_toArray, List.getElem_cons_zero, List.getElem_cons_succ]; go_simp; (try with_reducible rfl))
              (try simp only [Act.put, List.getElem_toArray, List.getElem_cons_zero, List.getElem_cons_succ, List.setIfInBounds_toArray, List.set_cons_zero, List.set_cons_succ])
              refine wpAnyH_take (i := 11) (v := ?v86) rfl (by kernel_rfl) (by kernel_rfl) (by kernel_rfl) (fun _ _ _ h => h) (Or.inl ⟨by rfl, ?hy86⟩) (by assumption) ?rest86
              case hy86 => (intro w hSw; (try dsimp only at hSw); simp only [List.getElem_toArray, List.getElem_cons_zero, List.getElem_cons_succ]; go_simp; (try with_reducible rfl))
              (try simp only [Act.put, List.getElem_toArray, List.getElem_cons_zero, List.getElem_cons_succ, List.setIfInBounds_toArray, List.set_cons_zero, List.set_cons_succ])
              refine wpAnyH_take (i := 12) (v := ?v87) rfl (by kernel_rfl) (by kernel_rfl) (by kernel_rfl) (fun _ _ _ h => h) (Or.inl ⟨by rfl, ?hy87⟩) (by assumption) ?rest87
              case hy87 => (intro w hSw; (try dsimp only at hSw); simp only [List.getElem_toArray, List.getElem_cons_zero, List.getElem_cons_succ]; go_simp; (try with_reducible rfl))
              (try simp only [Act.put, List.getElem_toArray, List.getElem_cons_zero, List.getElem_cons_succ, List.setIfInBounds_toArray, List.set_cons_zero, List.set_cons_succ])
              refine wpAnyH_take (i := 13) (v := ?v88) rfl (by kernel_rfl) (by kernel_rfl) (by kernel_rfl) (fun _ _ _ h => h) (Or.inl ⟨by rfl, ?hy88⟩) (by assumption) ?rest88
              case hy88 => (intro w hSw; (try dsimp only at hSw); simp only [List.getElem_toArray, List.getElem_cons_zero, List.getElem_cons_succ]; go_simp; (try with_reducible rfl))
              (try simp only [Act.put, List.getElem_toArray, List.getElem_cons_zero, List.getElem_cons_succ, List.setIfInBounds_toArray, List.set_cons_zero, List.set_cons_succ])
              refine wpAnyH_take (i := 14) (v := ?v89) rfl (by kernel_rfl) (by kernel_rfl) (by kernel_rfl) (fun _ _ _ h => h) (Or.inl ⟨by rfl, ?hy89⟩) (by assumption) ?rest89
              case hy89 => (intro w hSw; (try dsimp only at hSw); simp only [List.getElem_toArray, List.getElem_cons_zero, List.getElem_cons_succ]; go_simp; (try with_reducible rfl))
              (try simp only [Act.put, List.getElem_toArray, List.getElem_cons_zero, List.getElem_cons_succ, List.setIfInBounds_toArray, List.set_cons_zero, List.set_cons_succ])
              refine wpAnyH_take (i := 15) (v := ?v90) rfl (by kernel_rfl) (by kernel_rfl) (by kernel_rfl) (fun _ _ _ h => h) (Or.inl ⟨by rfl, ?hy90⟩) (by assumption) ?rest90
              case hy90 => (intro w hSw; (try dsimp only at hSw); simp only [List.getElem_toArray, List.getElem_cons_zero, List.getElem_cons_succ]; go_simp; (try with_reducible rfl))
              (try simp only [Act.put, List.getElem_toArray, List.getElem_cons_zero, List.getElem_cons_succ, List.setIfInBounds_toArray, List.set_cons_zero, List.set_cons_succ])
              refine wpAnyH_done (by kernel_rfl) ?_ _
              clear hHeld
              have HZB := hid_mk ((Out.refl 0 0 wr).drew)
              go_wp2_with fail
              exact ⟨⟨y + 1 + 1, by congr 1, by omega, HQ.out.trans HZB.out⟩, by simp [intOf]; omega⟩
          · have e : j = i := by omega
            subst e
            clear hL
            go_wp2_with fail
            go_loopw [18] (fun u wq => ∃ k : Nat, u = .int .i64 (k : Int) ∧ k ≤ K ∧ Out 0 0 w4 wq ∧ Row wq G 4 K (fun x => .bool (fdTo l j x))) (fun u _ => K - (intOf u).toNat)
            case atStart => exact ⟨0, rfl, Nat.zero_le _, HR.out.2.2.trans HQ.out, HR.out.1.kept HQ.out (.inr (Nat.zero_le _))⟩
            case round =>
              obtain ⟨k, rfl, k1, r3, r4⟩ := hrel
              have k0 : (0 : Int) ≤ (k : Int) := by omega
              have hWz := HW4.out.kept r3 (.inr (Nat.zero_le _))
              have c1 := hWz.cells.2.1
              have c3 := hWz.cells.2.2.2.1
              clear hWz
              by_cases hk : k < K
              · have k2 : (k : Int) ≤ st.last := by omega
                have k3 : (k : Int) < (K : Int) := by omega
                have d0 : wr.cell? ⟨G, k, none⟩ = some (.bool (fdTo l j k)) := r4.cell hk
                have HFi := hid_mk (spFind_any (HS4.out.quiet r3).1 (k : Int))
                have hfa := fd_all HS4.out.2 HRt.out.2 k
                rw [hm] at hfa
                rw [show ((rawOf N st).R (k : Int)).isSome = fdTo l j k from hfa] at HFi
                have HQ3 := hid_mk (And.intro r3 r4)
                clear r3 r4 hfa
                generalize ((rawOf N st).R (k : Int)).getD 0 = vv at HFi
                generalize fdTo l j k = bb at HFi d0
                cases bb
                · go_wp2_with (go_at_call 15; refine calls_same HFi.out ?_)
                  exact ⟨⟨k + 1, by congr 1, by omega, HQ3.out.1, HQ3.out.2⟩, by simp [intOf]; omega⟩
                · go_wp2_with (go_at_call 15; refine calls_same HFi.out ?_)
                  exact ⟨⟨k + 1, by congr 1, by omega, HQ3.out.1, HQ3.out.2⟩, by simp [intOf]; omega⟩
              · have e : k = K := by omega
                subst e
                have k2 : ¬ (k : Int) ≤ st.last := by omega
                have k3 : decide ((k : Int) ≤ st.last) = false := decide_eq_false k2
                have HOz := hid_mk (HO4.out.trans r3)
                have HSz := hid_mk (HS4.out.quiet r3)
                have HWn := hid_mk (wrong_none HS4.out.2 HRt.out.1)
                clear r3 r4
                go_wp2_with fail
                refine wp_region_held_drew (S := fun w' => w'.cell? ⟨b, 1, none⟩ = some (.pointer (some ⟨s 14, 0, none⟩)) ∧ w'.cell? ⟨b, 3, none⟩ = some (.int .i64 st.last)) (by kernel_rfl) ?hS108 (fun hHeld => ?rest108)
                case hS108 => exact ⟨c1, c3⟩
                obtain ⟨ZC, hZ⟩ : ∃ Z, wr.drew = Z := ⟨_, rfl⟩
                have OZC : Out 0 0 wr ZC := by rw [← hZ]; exact (Out.refl 0 0 wr).drew
                rw [hZ] at hHeld ⊢
                clear hZ
                have hfs := field_s
                refine wpAnyH_take (i := 0) (v := ?v109) rfl (by kernel_rfl) (by kernel_rfl) (by kernel_rfl) (fun _ _ _ h => h) (Or.inl ⟨by rfl, ?hy109⟩) (by assumption) ?rest109
                case hy109 => (intro w hSw; (try dsimp only at hSw); simp only [List.getElem_toArray, List.getElem_cons_zero, List.getElem_cons_succ]; go_simp; (try with_reducible rfl))
                (try simp only [Act.put, List.getElem_toArray, List.getElem_cons_zero, List.getElem_cons_succ, List.setIfInBounds_toArray, List.set_cons_zero, List.set_cons_succ])
                refine wpAnyH_take (i := 1) (v := ?v110) rfl (by kernel_rfl) (by kernel_rfl) (by kernel_rfl) (fun _ _ _ h => h) (Or.inl ⟨by rfl, ?hy110⟩) (by assumption) ?rest110
                case hy110 => (intro w hSw; (try dsimp only at hSw); simp only [List.getElem_toArray, List.getElem_cons_zero, List.getElem_cons_succ]; go_simp; (try with_reducible rfl))
                (try simp only [Act.put, List.getElem_toArray, List.getElem_cons_zero, List.getElem_cons_succ, List.setIfInBounds_toArray, List.set_cons_zero, List.set_cons_succ])
                refine wpAnyH_take (i := 2) (v := ?v111) rfl (by kernel_rfl) (by kernel_rfl) (by kernel_rfl) (fun _ _ _ h => h) (Or.inl ⟨by rfl, ?hy111⟩) (by assumption) ?rest111
                case hy111 => (intro w hSw; (try dsimp only at hSw); simp only [List.getElem_toArray, List.getElem_cons_zero, List.getElem_cons_succ]; go_simp; (try with_reducible rfl))
                (try simp only [Act.put, List.getElem_toArray, List.getElem_cons_zero, List.getElem_cons_succ, List.setIfInBounds_toArray, List.set_cons_zero, List.set_cons_succ])
                refine wpAnyH_take (i := 3) (v := ?v112) rfl (by kernel_rfl) (by kernel_rfl) (by kernel_rfl) (fun _ _ _ h => h) (Or.inl ⟨by rfl, ?hy112⟩) (by assumption) ?rest112
                case hy112 => (intro w hSw; (try dsimp only at hSw); simp only [List.getElem_toArray, List.getElem_cons_zero, List.getElem_cons_succ]; go_simp; (try with_reducible rfl))
                (try simp only [Act.put, List.getElem_toArray, List.getElem_cons_zero, List.getElem_cons_succ, List.setIfInBounds_toArray, List.set_cons_zero, List.set_cons_succ])
                refine wpAnyH_take (i := 6) (v := ?v113) rfl (by kernel_rfl) (by kernel_rfl) (by kernel_rfl) (fun _ _ _ h => h) (Or.inl ⟨by rfl, ?hy113⟩) (by assumption) ?rest113
                case hy113 => (intro w hSw; (try dsimp only at hSw); simp only [List.getElem_toArray, List.getElem_cons_zero, List.getElem_cons_succ]; go_simp; (try with_reducible rfl))
                (try simp only [Act.put, List.getElem_toArray, List.getElem_cons_zero, List.getElem_cons_succ, List.setIfInBounds_toArray, List.set_cons_zero, List.set_cons_succ])
                refine wpAnyH_take (i := 7) (v := ?v114) rfl (by kernel_rfl) (by kernel_rfl) (by kernel_rfl) (fun _ _ _ h => h) (Or.inl ⟨by rfl, ?hy114⟩) (by assumption) ?rest114
                case hy114 => (intro w hSw; (try dsimp only at hSw); simp only [List.getElem_toArray, List.getElem_cons_zero, List.getElem_cons_succ]; go_simp; (try with_reducible rfl))
                (try simp only [Act.put, List.getElem_toArray, List.getElem_cons_zero, List.getElem_cons_succ, List.setIfInBounds_toArray, List.set_cons_zero, List.set_cons_succ])
                refine wpAnyH_take (i := 8) (v := ?v115) rfl (by kernel_rfl) (by kernel_rfl) (by kernel_rfl) (fun _ _ _ h => h) (Or.inl ⟨by rfl, ?hy115⟩) (by assumption) ?rest115
                case hy115 => (intro w hSw; (try dsimp only at hSw); simp only [List.getElem_toArray, List.getElem_cons_zero, List.getElem_cons_succ]; go_simp; (try with_reducible rfl))
                (try simp only [Act.put, List.getElem_toArray, List.getElem_cons_zero, List.getElem_cons_succ, List.setIfInBounds_toArray, List.set_cons_zero, List.set_cons_succ])
                refine wpAnyH_take (i := 9) (v := ?v116) rfl (by kernel_rfl) (by kernel_rfl) (by kernel_rfl) (fun _ _ _ h => h) (Or.inl ⟨by rfl, ?hy116⟩) (by assumption) ?rest116
                case hy116 => (intro w hSw; (try dsimp only at hSw); simp only [List.getElem_toArray, List.getElem_cons_zero, List.getElem_cons_succ]; go_simp; (try with_reducible rfl))
                (try simp only [Act.put, List.getElem_toArray, List.getElem_cons_zero, List.getElem_cons_succ, List.setIfInBounds_toArray, List.set_cons_zero, List.set_cons_succ])
                refine wpAnyH_ready (rs := [4]) (by kernel_rfl) (by simp) ?_
                refine AllReadyH.cons rfl (fun KK hK => ?_) AllReadyH.nil
                simp only [List.getElem_toArray, List.getElem_cons_zero, List.getElem_cons_succ]
                go_simp
                refine (dumpE (HSz.out.quiet OZC)).mono ?_
                rintro e WD ⟨o0, o1, o2, k0, k1, k2, h0, h1, h2, h3, h4, h5, h6, h7, rfl, _, _, _, oD⟩
                replace OZC := OZC.trans oD
                refine hK.out _ _ ?hS117 (fun hHeld2 => ?rest117)
                case hS117 => exact ⟨oD.cell hHeld.1 (.inr (Nat.zero_le _)), oD.cell hHeld.2 (.inr (Nat.zero_le _))⟩
                clear oD
                clear hK KK
                (try clear hHeld)
                have hHeld := hHeld2
                clear hHeld2
                (try simp only [Act.put, List.getElem_toArray, List.getElem_cons_zero, List.getElem_cons_succ, List.setIfInBounds_toArray, List.set_cons_zero, List.set_cons_succ])
                refine wpAnyH_take (i := 5) (v := ?v118) rfl (by kernel_rfl) (by kernel_rfl) (by kernel_rfl) (fun _ _ _ h => h) (Or.inl ⟨by rfl, ?hy118⟩) (by assumption) ?rest118
                case hy118 => (intro w hSw; (try dsimp only at hSw); simp only [List.getElem_toArray, List.getElem_cons_zero, List.getElem_cons_succ]; go_simp; (try with_reducible rfl))
                (try simp only [Act.put, List.getElem_toArray, List.getElem_cons_zero, List.getElem_cons_succ, List.setIfInBounds_toArray, List.set_cons_zero, List.set_cons_succ])
                refine wpAnyH_take (i := 10) (v := ?v119) rfl (by kernel_rfl) (by kernel_rfl) (by kernel_rfl) (fun _ _ _ h => h) (Or.inl ⟨by rfl, ?hy119⟩) (by assumption) ?rest119
                case hy119 => (intro w hSw; (try dsimp only at hSw); simp only [List.getElem_toArray, List.getElem_cons_zero, List.getElem_cons_succ]; go_simp; (try with_reducible rfl))
                (try simp only [Act.put, List.getElem_toArray, List.getElem_cons_zero, List.getElem_cons_succ, List.setIfInBounds_toArray, List.set_cons_zero, List.set_cons_succ])
                refine wpAnyH_take (i := 11) (v := ?v120) rfl (by kernel_rfl) (by kernel_rfl) (by kernel_rfl) (fun _ _ _ h => h) (Or.inl ⟨by rfl, ?hy120⟩) (by assumption) ?rest120
                case hy120 => (intro w hSw; (try dsimp only at hSw); simp only [List.getElem_toArray, List.getElem_cons_zero, List.getElem_cons_succ]; go_simp; (try with_reducible rfl))
                (try simp only [Act.put, List.getElem_toArray, List.getElem_cons_zero, List.getElem_cons_succ, List.setIfInBounds_toArray, List.set_cons_zero, List.set_cons_succ])
                refine wpAnyH_take (i := 12) (v := ?v121) rfl (by kernel_rfl) (by kernel_rfl) (by kernel_rfl) (fun _ _ _ h => h) (Or.inl ⟨by rfl, ?hy121⟩) (by assumption) ?rest121
                case hy121 => (intro w hSw; (try dsimp only at hSw); simp only [List.getElem_toArray, List.getElem_cons_zero, List.getElem_cons_succ]; go_simp; (try with_reducible rfl))
                (try simp only [Act.put, List.getElem_toArray, List.getElem_cons_zero, List.getElem_cons_succ, List.setIfInBounds_toArray, List.set_cons_zero, List.set_cons_succ])
                refine wpAnyH_take (i := 13) (v := ?v122) rfl (by kernel_rfl) (by kernel_rfl) (by kernel_rfl) (fun _ _ _ h => h) (Or.inl ⟨by rfl, ?hy122⟩) (by assumption) ?rest122
                case hy122 => (intro w hSw; (try dsimp only at hSw); simp only [List.getElem_toArray, List.getElem_cons_zero, List.getElem_cons_succ]; go_simp; (try with_reducible rfl))
                (try simp only [Act.put, List.getElem_toArray, List.getElem_cons_zero, List.getElem_cons_succ, List.setIfInBounds_toArray, List.set_cons_zero, List.set_cons_succ])
                refine wpAnyH_take (i := 14) (v := ?v123) rfl (by kernel_rfl) (by kernel_rfl) (by kernel_rfl) (fun _ _ _ h => h) (Or.inl ⟨by rfl, ?hy123⟩) (by assumption) ?rest123
                case hy123 => (intro w hSw; (try dsimp only at hSw); simp only [List.getElem_toArray, List.getElem_cons_zero, List.getElem_cons_succ]; go_simp; (try with_reducible rfl))
                (try simp only [Act.put, List.getElem_toArray, List.getElem_cons_zero, List.getElem_cons_succ, List.setIfInBounds_toArray, List.set_cons_zero, List.set_cons_succ])
                refine wpAnyH_take (i := 15) (v := ?v124) rfl (by kernel_rfl) (by kernel_rfl) (by kernel_rfl) (fun _ _ _ h => h) (Or.inl ⟨by rfl, ?hy124⟩) (by assumption) ?rest124
                case hy124 => (intro w hSw; (try dsimp only at hSw); simp only [List.getElem_toArray, List.getElem_cons_zero, List.getElem_cons_succ]; go_simp; (try with_reducible rfl))
                (try simp only [Act.put, List.getElem_toArray, List.getElem_cons_zero, List.getElem_cons_succ, List.setIfInBounds_toArray, List.set_cons_zero, List.set_cons_succ])
                refine wpAnyH_ready (rs := [16]) (by kernel_rfl) (by simp) ?_
                refine AllReadyH.cons rfl (fun KK hK => ?_) AllReadyH.nil
                simp only [List.getElem_toArray, List.getElem_cons_zero, List.getElem_cons_succ]
                go_simp
                refine (wrong_any (HSz.out.quiet OZC).1 (told_of st)).mono ?_
                rintro e WE ⟨rfl, oD⟩
                rw [HWn.out]
                replace OZC := OZC.trans oD
                refine hK.out _ _ ?hS125 (fun hHeld2 => ?rest125)
                case hS125 => exact ⟨oD.cell hHeld.1 (.inr (Nat.zero_le _)), oD.cell hHeld.2 (.inr (Nat.zero_le _))⟩
                clear oD
                clear hK KK
                (try clear hHeld)
                have hHeld := hHeld2
                clear hHeld2
                (try simp only [Act.put, List.getElem_toArray, List.getElem_cons_zero, List.getElem_cons_succ, List.setIfInBounds_toArray, List.set_cons_zero, List.set_cons_succ])
                refine wpAnyH_take (i := 17) (v := ?v126) rfl (by kernel_rfl) (by kernel_rfl) (by kernel_rfl) (fun _ _ _ h => h) (Or.inl ⟨by rfl, ?hy126⟩) (by assumption) ?rest126
                case hy126 => (intro w hSw; (try dsimp only at hSw); simp only [List.getElem_toArray, List.getElem_cons_zero, List.getElem_cons_succ]; go_simp; (try with_reducible rfl))
                (try simp only [Act.put, List.getElem_toArray, List.getElem_cons_zero, List.getElem_cons_succ, List.setIfInBounds_toArray, List.set_cons_zero, List.set_cons_succ])
                refine wpAnyH_take (i := 18) (v := ?v127) rfl (by kernel_rfl) (by kernel_rfl) (by kernel_rfl) (fun _ _ _ h => h) (Or.inl ⟨by rfl, ?hy127⟩) (by assumption) ?rest127
                case hy127 => (intro w hSw; (try dsimp only at hSw); simp only [List.getElem_toArray, List.getElem_cons_zero, List.getElem_cons_succ]; go_simp; (try with_reducible rfl))
                (try simp only [Act.put, List.getElem_toArray, List.getElem_cons_zero, List.getElem_cons_succ, List.setIfInBounds_toArray, List.set_cons_zero, List.set_cons_succ])
                refine wpAnyH_take (i := 19) (v := ?v128) rfl (by kernel_rfl) (by kernel_rfl) (by kernel_rfl) (fun _ _ _ h => h) (Or.inl ⟨by rfl, ?hy128⟩) (by assumption) ?rest128
                case hy128 => (intro w hSw; (try dsimp only at hSw); simp only [List.getElem_toArray, List.getElem_cons_zero, List.getElem_cons_succ]; go_simp; (try with_reducible rfl))
                (try simp only [Act.put, List.getElem_toArray, List.getElem_cons_zero, List.getElem_cons_succ, List.setIfInBounds_toArray, List.set_cons_zero, List.set_cons_succ])
                refine wpAnyH_done (by kernel_rfl) ?_ _
                clear hHeld
                have HZC := hid_mk OZC
                clear OZC
                go_wp2_with fail
                go_ret
                exact ⟨rfl, HOz.out.trans HZC.out⟩
end Go.Proofs.YtjbbkeoolodeaabDoor
