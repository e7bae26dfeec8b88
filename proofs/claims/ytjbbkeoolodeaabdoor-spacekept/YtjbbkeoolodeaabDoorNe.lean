import Derived.Test.YtjbbkeoolodeaabDoorNd
namespace Go.Proofs.YtjbbkeoolodeaabDoor
open Go.RowKit
set_option linter.unusedVariables false
set_option linter.unusedSimpArgs false

theorem keeps_any {w0 w : World} {b N lo hi cap : Nat} {s : Nat → Nat} {st : Sp} {l : List (Nat × Blk)} (h : WSt w0 b N lo hi cap s w st l) (hN : N ≤ 12) {L : List Int} {p : Option Addr} {cp : Nat} (hL : SlI w b p L) (hLl : L.length ≤ 400) :
    Calls Tryd.prog 21 #[.pointer (some ⟨b, 0, none⟩), .slice p L.length cp] w fun e w' => e = .returned (.bool true) ∧ WSt w0 b N lo hi cap s w' (kpP N st l L).1 (kpP N st l L).2 := by
  cases l with
  | nil => exact keeps_none h hLl
  | cons q l => exact keeps_some h hN (by simp) hL hLl
theorem keeps_anyO {w0 w : World} {b N lo hi cap : Nat} {s : Nat → Nat} {st : Sp} {l : List (Nat × Blk)} (h : WSt w0 b N lo hi cap s w st l) (hN : N ≤ 12) {L : List Int} {p : Option Addr} {cp : Nat} (hL : SlI w b p L) (hLl : L.length ≤ 400) :
    Calls Tryd.prog 21 #[.pointer (some ⟨b, 0, none⟩), .slice p L.length cp] w fun e w' => e = .returned (.bool true) ∧ WSt w0 b N lo hi cap s w' (kpP N st l L).1 (kpP N st l L).2 ∧ Out b hi w w' := by
  cases l with
  | nil => exact keeps_noneO h hLl
  | cons q l => exact keeps_someO h hN (by simp) hL hLl
theorem inArena {n : Nat} {st : Sp} (hi : Inv n st) : InArena n (rawOf n st) := by
  intro a b h
  obtain ⟨j, rfl, hj⟩ := mIn_of hi a b h
  obtain ⟨rfl, hh⟩ := obM_of h
  have h1 := size_room hi hh
  have h2 := fits_size (hi.objs j hh).2.1
  exact ⟨by omega, by omega, h2.2.2.1, h2.2.2.2⟩
/-- a writing of an object's word -/
def wrP (st : Sp) (q : Nat × Blk) (i v : Int) : Sp := if 1 ≤ i ∧ i < q.2.2.1 then wrSp st (q.1 + i.toNat) v else st
theorem write_wst {w0 w : World} {b N lo hi cap : Nat} {s : Nat → Nat} {st : Sp} {l : List (Nat × Blk)} (h : WSt w0 b N lo hi cap s w st l) {q : Nat × Blk} (hq : q ∈ l) (i v : Int) :
    Calls Tryd.prog 29 #[.pointer (some ⟨s 14, 0, none⟩), .int .i64 (q.1 : Int), .int .i64 i, .int .i64 v] w fun e w' => ∃ er, e = .returned (.agg #[.int .i64 er, .int .i64 0]) ∧ (er == 0) = (decide (1 ≤ i) && decide (i < q.2.2.1)) ∧ WSt w0 b N lo hi cap s w' (wrP st q i v) l ∧ Out lo hi w w' := by
  obtain ⟨h1, h2, h3, h4, h5, u, h6, h7⟩ := id h
  obtain ⟨e1, e2⟩ := h5.2.1 q hq
  have hh : hasB (st.O q.1) = true := by rw [e1]; exact e2
  have hM : (rawOf N st).M (q.1 : Int) = some q.2 := by
    show obM st (q.1 : Int) = _
    unfold obM
    rw [show ((q.1 : Int)).toNat = q.1 from by omega, if_pos ⟨by omega, hh⟩, e1]
  have hW : (rawOf N st).W ((q.1 : Int)).toNat = makeV q.1 q.2.1 q.2.2.1 := by
    show st.W _ = _
    rw [show ((q.1 : Int)).toNat = q.1 from by omega]
    have := h4.2 q.1 hh
    rw [e1] at this
    exact this
  have hA : chkA (rawOf N st) (q.1 : Int) = 0 := by unfold chkA; rw [hM]; simp only []; rw [if_pos hW]
  refine (write_any h3.1 (inArena h3.2) (q.1 : Int) i v).mono ?_
  rintro e w' ⟨rfl, hr, ho⟩
  by_cases hin : 1 ≤ i ∧ i < q.2.2.1
  · have hE : wrdE (rawOf N st) (q.1 : Int) i = 0 := by unfold wrdE; rw [hM]; simp only []; rw [if_pos hW, if_neg (by omega)]
    refine ⟨0, by rw [hE, hA]; rfl, by simp [hin], ?_, ho⟩
    have hP : wrP st q i v = wrSp st (q.1 + i.toNat) v := by unfold wrP; rw [if_pos hin]
    rw [hP]
    have hr' : RawAt w' lo hi s N cap (rawOf N (wrSp st (q.1 + i.toNat) v)) := by
      have : wrW (rawOf N st) (q.1 : Int) i v = updW st.W (q.1 + i.toNat) v := by
        unfold wrW; rw [if_pos hE, show ((q.1 : Int) + i).toNat = q.1 + i.toNat from by omega]; rfl
      rw [this] at hr
      exact hr
    have hj : ((i.toNat : Nat) : Int) < (st.O q.1).2.1 := by rw [e1]; omega
    exact h.turn ho ⟨hr', wr_inv h3.2⟩ (wr_rt h3.2 h4 hh (by omega) hj) h5 rfl
  · have hE : wrdE (rawOf N st) (q.1 : Int) i = 23 := by unfold wrdE; rw [hM]; simp only []; rw [if_pos hW, if_pos (by omega)]
    refine ⟨23, by rw [hE, hA]; rfl, ?_, ?_, ho⟩
    · have : (decide (1 ≤ i) && decide (i < q.2.2.1)) = false := by
        rw [Bool.and_eq_false_iff]
        simp only [decide_eq_false_iff_not]
        omega
      rw [this]; rfl
    · have hP : wrP st q i v = st := by unfold wrP; rw [if_neg hin]
      rw [hP]
      have hr' : RawAt w' lo hi s N cap (rawOf N st) := by
        have : wrW (rawOf N st) (q.1 : Int) i v = (rawOf N st).W := by unfold wrW; rw [if_neg (by rw [hE]; omega)]
        rw [this] at hr
        exact hr
      exact h.turn ho ⟨hr', h3.2⟩ h4 h5 rfl
/-- a step: its kind, three numbers, a list -/
structure OpQ where
  k : Int
  a : Int
  b : Int
  c : Int
  L : List Int
def opP (N : Nat) (q : Sp × List (Nat × Blk)) (o : OpQ) : Sp × List (Nat × Blk) :=
  if o.k = 1 then tkP N q.1 q.2 o.a o.b o.c
  else if o.k = 3 then (if q.2.length = 0 then q else (wrP q.1 (atB q.2 (idxF q.2.length o.a)) o.b o.c, q.2))
  else if o.k = 7 then kpP N q.1 q.2 o.L
  else q
def plP (N : Nat) (q : Sp × List (Nat × Blk)) (os : List OpQ) : Nat → Sp × List (Nat × Blk)
  | 0 => q
  | i + 1 => match os[i]? with | some o => opP N (plP N q os i) o | none => plP N q os i
theorem op_last (N : Nat) (q : Sp × List (Nat × Blk)) (o : OpQ) : (opP N q o).1.last ≤ q.1.last + 1 := by
  unfold opP
  split
  · unfold tkP
    split
    · split
      · show lastOf q.1 o.a ≤ _
        unfold lastOf; split <;> omega
      · show q.1.last ≤ _; omega
    · show q.1.last ≤ _; omega
  · split
    · split
      · omega
      · show (wrP _ _ _ _).last ≤ _
        unfold wrP; split
        · show q.1.last ≤ _; omega
        · omega
    · split
      · show (keepSp N q.1 _).last ≤ _
        rw [show (keepSp N q.1 (psF q.2 o.L)).last = q.1.last from (ln_parts N (kpSp1 N q.1 (kpS (psF q.2 o.L))) 8).2.2]
        omega
      · omega
theorem pl_last (N : Nat) (q : Sp × List (Nat × Blk)) (os : List OpQ) : ∀ i, (plP N q os i).1.last ≤ q.1.last + i
  | 0 => by show q.1.last ≤ _; omega
  | i + 1 => by
    have ih := pl_last N q os i
    unfold plP
    split
    · rename_i o _
      have := op_last N (plP N q os i) o
      omega
    · omega
/-- a script among the arguments: below b -/
def ScrAt (w : World) (b : Nat) (p : Option Addr) (os : List OpQ) : Prop :=
  (∀ o ∈ os, -9223372036854775808 ≤ o.a ∧ o.a ≤ 9223372036854775807 ∧ -9223372036854775808 ≤ o.b ∧ o.b ≤ 9223372036854775807) ∧
  (os = [] ∨ ∃ g off, p = some ⟨g, off, none⟩ ∧ g < b ∧ ∀ j o, os[j]? = some o → ∃ (x : Int) (lp : Option Addr) (lc : Nat), w.cell? ⟨g, off + j * 6, none⟩ = some (.int .i64 x) ∧ w.cell? ⟨g, off + j * 6 + 1, none⟩ = some (.int .i64 o.k) ∧ w.cell? ⟨g, off + j * 6 + 2, none⟩ = some (.int .i64 o.a) ∧ w.cell? ⟨g, off + j * 6 + 3, none⟩ = some (.int .i64 o.b) ∧ w.cell? ⟨g, off + j * 6 + 4, none⟩ = some (.int .i64 o.c) ∧ w.cell? ⟨g, off + j * 6 + 5, none⟩ = some (.slice lp o.L.length lc) ∧ SlI w b lp o.L)
theorem ScrAt.kept {w w' : World} {b x y : Nat} {p : Option Addr} {os : List OpQ} (h : ScrAt w b p os) (o : Out x y w w') (hx : b ≤ x ∨ y = 0) : ScrAt w' b p os := by
  refine ⟨h.1, ?_⟩
  rcases h.2 with h | ⟨g, off, h1, h2, h3⟩
  · exact .inl h
  · refine .inr ⟨g, off, h1, h2, fun j q hq => ?_⟩
    obtain ⟨x', lp, lc, c0, c1, c2, c3, c4, c5, c6⟩ := h3 j q hq
    have hg : g < x ∨ y ≤ g := by omega
    exact ⟨x', lp, lc, o.cell c0 hg, o.cell c1 hg, o.cell c2 hg, o.cell c3 hg, o.cell c4 hg, o.cell c5 hg, c6.kept o hx⟩
end Go.Proofs.YtjbbkeoolodeaabDoor
namespace Go.Proofs.YtjbbkeoolodeaabDoor
open Go.RowKit
set_option linter.unusedVariables false
set_option linter.unusedSimpArgs false

theorem op_box {w : World} {g : Nat} {x k a b c : Int} {lp : Option Addr} {n lc : Nat} {T : TypeId} (h : w.heap[g]? = some (.cells #[.int .i64 x, .int .i64 k, .int .i64 a, .int .i64 b, .int .i64 c, .slice lp n lc] T (0, 0))) :
    w.cell? ⟨g, 1, none⟩ = some (.int .i64 k) ∧ w.cell? ⟨g, 2, none⟩ = some (.int .i64 a) ∧ w.cell? ⟨g, 3, none⟩ = some (.int .i64 b) ∧ w.cell? ⟨g, 4, none⟩ = some (.int .i64 c) ∧ w.cell? ⟨g, 5, none⟩ = some (.slice lp n lc) := by
  refine ⟨?_, ?_, ?_, ?_, ?_⟩ <;> simp [World.cell?, h]
theorem bo_out (X : World) (b : Nat) (v0 v1 v2 v3 v4 : Value) : Out b (b + 1) X (((((X.setCell ⟨b, 0, none⟩ v0).setCell ⟨b, 1, none⟩ v1).setCell ⟨b, 2, none⟩ v2).setCell ⟨b, 3, none⟩ v3).setCell ⟨b, 4, none⟩ v4) := by
  have hb : ∀ {Y : World}, Out b (b + 1) X Y → ∀ (o : Nat) (v : Value), Out b (b + 1) X (Y.setCell ⟨b, o, none⟩ v) := fun h o v => h.setCell (p := ⟨b, o, none⟩) (.inl ⟨Nat.le_refl _, Nat.lt_succ_self _⟩) v
  exact hb (hb (hb (hb (hb (Out.refl _ _ _) _ _) _ _) _ _) _ _) _ _
theorem bo_set {X : World} {b : Nat} {a0 a1 a2 a3 a4 : Int} (h : X.heap[b]? = some (bo a0 a1 a2 a3 a4)) (c0 c1 c2 c3 c4 : Int) : (((((X.setCell ⟨b, 0, none⟩ (.int .i64 c0)).setCell ⟨b, 1, none⟩ (.int .i64 c1)).setCell ⟨b, 2, none⟩ (.int .i64 c2)).setCell ⟨b, 3, none⟩ (.int .i64 c3)).setCell ⟨b, 4, none⟩ (.int .i64 c4)).heap[b]? = some (bo c0 c1 c2 c3 c4) := by
  unfold bo at *
  simp [World.setCell, Array.getElem?_modify, h]
theorem WSt.far {w0 w w' : World} {b N lo hi cap x : Nat} {s : Nat → Nat} {st : Sp} {l : List (Nat × Blk)} (h : WSt w0 b N lo hi cap s w st l) (o : Out x (x + 1) w w') (hx : w0.heap.size ≤ x) (hv : ∀ v, WAt w b N (s 14) v st.last → v.ownBlock ≠ some x) : WSt w0 b N lo hi cap s w' st l := by
  obtain ⟨h1, h2, h3, h4, h5, v, h6, h7⟩ := h
  exact ⟨h1, out_far h2 o (.inl hx), h3.kept o (.inl (by omega)) (.inl (by omega)), h4, h5, v, h6.kept o (.inl (by omega)), own_same h7 fun g ob hg _ hh => o.heap hh (by have := hv v h6; rw [hg] at this; simp at this; omega)⟩
set_option maxRecDepth 100000 in
set_option maxHeartbeats 16000000 in
theorem played_any {w0 w : World} {b N lo hi cap : Nat} {s : Nat → Nat} {st : Sp} {l : List (Nat × Blk)} (h : WSt w0 b N lo hi cap s w st l) (hN : N ≤ 12) (hl0 : st.last ≤ 0) {os : List OpQ} {p : Option Addr} {cp : Nat} (hS : ScrAt w0 b p os) (hLl : ∀ (j : Nat) (o : OpQ), os[j]? = some o → j < 120 → o.L.length ≤ 400) (hbb : b < w0.heap.size) :
    Calls Tryd.prog 10 #[.pointer (some ⟨b, 0, none⟩), .slice p os.length cp] w fun e w' => e = .returned (.bool true) ∧ WSt w0 b N lo hi cap s w' (plP N (st, l) os (min os.length 120)).1 (plP N (st, l) os (min os.length 120)).2 := by
  have H0 := hid_mk h
  have HSc := hid_mk hS
  have HLl := hid_mk hLl
  have HN := hid_mk hN
  have HL0 := hid_mk hl0
  have ll0 : (0 : Int) ≤ (os.length : Int) := by omega
  clear h hS hLl hN hl0
  go_enter Tryd.func10, Tryd.ntmps10
  go_wp2_with fail
  go_loopw [5] (fun u wr => ∃ i : Nat, u = .int .i64 (i : Int) ∧ i ≤ os.length ∧ i ≤ 120 ∧ WSt w0 b N lo hi cap s wr (plP N (st, l) os i).1 (plP N (st, l) os i).2) (fun u _ => 120 - (intOf u).toNat)
  case atStart => exact ⟨0, rfl, Nat.zero_le _, by omega, H0.out⟩
  case round =>
    clear H0
    obtain ⟨i, rfl, i1, i2, hw⟩ := hrel
    have i0 : (0 : Int) ≤ (i : Int) := by omega
    have i3 : (i : Int) ≤ 120 := by omega
    by_cases hi : i < os.length ∧ i < 120
    · have j1 : (i : Int) < (os.length : Int) := by omega
      have j2 : (i : Int) < 120 := by omega
      obtain ⟨o, ho⟩ : ∃ o, os[i]? = some o := ⟨_, List.getElem?_eq_getElem hi.1⟩
      have hsc := HSc.out.kept hw.2.1 (.inl (Nat.le_refl _))
      rcases hsc.2 with e | ⟨g, off, hp, hgb, hcell⟩
      · rw [e] at hi; simp at hi
      subst hp
      obtain ⟨x, lp, lc, c0, c1, c2, c3, c4, c5, c6⟩ := hcell i o ho
      have hbd := hsc.1 o (List.mem_of_getElem? ho)
      have hpl : plP N (st, l) os (i + 1) = opP N (plP N (st, l) os i) o := by
        conv => lhs; unfold plP
        rw [ho]
      have hla := pl_last N (st, l) os i
      obtain ⟨⟨st1, l1⟩, hq⟩ : ∃ q, plP N (st, l) os i = q := ⟨_, rfl⟩
      rw [hq] at hw hpl hla
      dsimp only at hw hla
      have HW := hid_mk hw
      have HPl := hid_mk hpl
      have HLa : Hid (st1.last < 1000000) := by have := HL0.out; show st1.last < _; omega
      have HLn := hid_mk (HLl.out i o ho hi.2)
      have hbw : b < wr.heap.size := by have := hw.2.1.size; omega
      obtain ⟨k, a, bb, c, L⟩ := o
      dsimp only at c1 c2 c3 c4 c5 c6 hbd HPl HLn
      have HC6 := hid_mk c6
      have HBd := hid_mk hbd
      have oA : Out 0 0 wr (wr.alloc (.cells #[.int .i64 x, .int .i64 k, .int .i64 a, .int .i64 bb, .int .i64 c, .slice lp L.length lc] 69)) := (Out.refl 0 0 wr).alloc _
      have HOA := hid_mk oA
      clear hw hpl hla hsc hcell ho hi c6 hbd hq oA
      by_cases k1 : k = 1
      · subst k1
        have HTk := hid_mk (takes_any (HW.out.quiet HOA.out) HN.out HLa.out a bb c HBd.out.2.2.1 HBd.out.2.2.2)
        go_wp2_with fail
        refine HTk.out.mono ?_
        rintro e w1 ⟨rfl, h1⟩
        have H1 := hid_mk h1
        clear h1 HTk
        go_wp2
        go_roundw
        case rel =>
          refine ⟨i + 1, by go_num, by omega, by omega, ?_⟩
          rw [HPl.out]
          exact H1.out
        case measure => simp [intOf]; omega
      · by_cases k7 : k = 7
        · subst k7
          have HKp := hid_mk (keeps_any (p := lp) (cp := lc) (HW.out.quiet HOA.out) HN.out (HC6.out.kept HOA.out (.inr rfl)) HLn.out)
          go_wp2_with fail
          refine HKp.out.mono ?_
          rintro e w1 ⟨rfl, h1⟩
          have H1 := hid_mk h1
          clear h1 HKp
          go_wp2
          go_roundw
          case rel =>
            refine ⟨i + 1, by go_num, by omega, by omega, ?_⟩
            rw [HPl.out]
            exact H1.out
          case measure => simp [intOf]; omega
        · by_cases k3 : k = 3
          · subst k3
            have hWq := HW.out.quiet HOA.out
            obtain ⟨h1, h2, h3, h4, h5, v, h6, h7⟩ := hWq
            have hlen := obl_len h3.2 h5
            by_cases hl1 : 0 < l1.length
            · obtain ⟨gb, cb, rfl, hg1, hg2, hg3⟩ := own_at5 h7 hl1
              obtain ⟨m, hm⟩ : ∃ m, l1.length = m := ⟨_, rfl⟩
              rw [hm] at h6 hl1 hlen hg3
              have m0 : (0 : Int) < (m : Int) := by omega
              have m1 : (m : Int) ≤ 768 := by have := HN.out; omega
              obtain ⟨kk, hkk⟩ : ∃ kk, idxF m a = kk := ⟨_, rfl⟩
              have hidx := idx_lt (m := m) (by omega) a
              have HWi := hid_mk (fun w' => within_any a (m : Int) w' HBd.out.1 HBd.out.2.1 m0 (by omega))
              rw [hidx.2, hkk] at HWi
              rw [hkk] at hidx
              have kk0 : (0 : Int) ≤ (kk : Int) := by omega
              have kk1 : (kk : Int) < (m : Int) := by omega
              obtain ⟨⟨ba, bk, bz, bx, bt⟩, hat⟩ : ∃ q, atB l1 kk = q := ⟨_, rfl⟩
              obtain ⟨y0, y1, y2, y3, y4⟩ := hg3 kk hidx.1
              rw [hat] at y0 y1 y2 y3 y4
              dsimp only at y0 y1 y2 y3 y4
              have d2 := h6.cells.2.2.1
              have hmem : (ba, bk, bz, bx, bt) ∈ l1 := by rw [← hat]; exact (atB_mem (by rw [hm]; exact hidx.1)).1
              have HQ := hid_mk (And.intro hm (And.intro hkk (And.intro hat hmem)))
              have d1 := h6.cells.2.1
              obtain ⟨W1, hW1⟩ : ∃ W, wr.alloc (.cells #[.int .i64 x, .int .i64 3, .int .i64 a, .int .i64 bb, .int .i64 c, .slice lp L.length lc] 69) = W := ⟨_, rfl⟩
              obtain ⟨B1, hB1⟩ : ∃ B, wr.heap.size = B := ⟨_, rfl⟩
              have hB1f : W1.heap[B1]? = some (.cells #[.int .i64 x, .int .i64 3, .int .i64 a, .int .i64 bb, .int .i64 c, .slice lp L.length lc] 69 (0, 0)) := by rw [← hW1, ← hB1]; exact heap_alloc_new _ _
              have hs1 : W1.heap.size = B1 + 1 := by rw [← hW1, ← hB1]; exact World.size_alloc _ _
              have HWq : Hid (WSt w0 b N lo hi cap s W1 st1 l1) := by rw [← hW1]; exact HW.out.quiet HOA.out
              have hz0 := HW.out.2.1.size
              have hrow := HW.out
              have HB1 := hid_mk hB1f
              have HK1 : Hid (w0.heap.size ≤ B1 ∧ hi ≤ w0.heap.size ∧ b < w0.heap.size ∧ gb < W1.heap.size ∧ W1.heap.size = B1 + 1 ∧ b < lo) := ⟨by omega, h1.2.2.1, hbb, by rw [← hW1]; exact hg2, hs1, h1.1⟩
              obtain ⟨bA1, b1A, bA3, bA4, bA5⟩ := op_box hB1f
              rw [hW1] at d1 d2 y0 y1 y2 y3 y4
              clear h1 h2 h3 h4 h5 h6 h7 hlen hg1 hg2 hg3 hm hkk hat hmem hidx hrow hz0 hs1 hB1f
              go_wp2_with fail
              (try rw [hW1])
              (try rw [hB1])
              clear hW1 hB1 bA1 bA3 bA4 bA5
              refine wp_region_held_drew (S := fun w' => w'.cell? ⟨B1, 2, none⟩ = some (.int .i64 a) ∧ w'.cell? ⟨b, 2, none⟩ = some (.slice (some ⟨gb, 0, none⟩) m cb) ∧ w'.cell? ⟨gb, kk * 5, none⟩ = some (.int .i64 (ba : Int)) ∧ w'.cell? ⟨gb, kk * 5 + 1, none⟩ = some (.int .i64 bk) ∧ w'.cell? ⟨gb, kk * 5 + 2, none⟩ = some (.int .i64 bz) ∧ w'.cell? ⟨gb, kk * 5 + 3, none⟩ = some (.int .i64 bx) ∧ w'.cell? ⟨gb, kk * 5 + 4, none⟩ = some (.int .i64 bt)) (by kernel_rfl) ?hS1 (fun hHeld => ?rest1)
              case hS1 => exact ⟨b1A, d2, y0, y1, y2, y3, y4⟩
              obtain ⟨Z, hZ⟩ : ∃ Z, W1.drew = Z := ⟨_, rfl⟩
              have OZ : Out 0 0 W1 Z := by rw [← hZ]; exact (Out.refl 0 0 W1).drew
              rw [hZ] at hHeld ⊢
              clear hZ
              refine wpAnyH_take (i := 0) (v := ?v2) rfl (by kernel_rfl) (by kernel_rfl) (by kernel_rfl) (fun _ _ _ h => h) (Or.inl ⟨by rfl, ?hy2⟩) (by assumption) ?rest2
              case hy2 => (intro w hSw; (try dsimp only at hSw); simp only [List.getElem_toArray, List.getElem_cons_zero, List.getElem_cons_succ]; go_simp; (try with_reducible rfl))
              (try simp only [Act.put, List.getElem_toArray, List.getElem_cons_zero, List.getElem_cons_succ, List.setIfInBounds_toArray, List.set_cons_zero, List.set_cons_succ])
              refine wpAnyH_take (i := 1) (v := ?v3) rfl (by kernel_rfl) (by kernel_rfl) (by kernel_rfl) (fun _ _ _ h => h) (Or.inl ⟨by rfl, ?hy3⟩) (by assumption) ?rest3
              case hy3 => (intro w hSw; (try dsimp only at hSw); simp only [List.getElem_toArray, List.getElem_cons_zero, List.getElem_cons_succ]; go_simp; (try with_reducible rfl))
              (try simp only [Act.put, List.getElem_toArray, List.getElem_cons_zero, List.getElem_cons_succ, List.setIfInBounds_toArray, List.set_cons_zero, List.set_cons_succ])
              refine wpAnyH_take (i := 2) (v := ?v4) rfl (by kernel_rfl) (by kernel_rfl) (by kernel_rfl) (fun _ _ _ h => h) (Or.inl ⟨by rfl, ?hy4⟩) (by assumption) ?rest4
              case hy4 => (intro w hSw; (try dsimp only at hSw); simp only [List.getElem_toArray, List.getElem_cons_zero, List.getElem_cons_succ]; go_simp; (try with_reducible rfl))
              (try simp only [Act.put, List.getElem_toArray, List.getElem_cons_zero, List.getElem_cons_succ, List.setIfInBounds_toArray, List.set_cons_zero, List.set_cons_succ])
              refine wpAnyH_take (i := 3) (v := ?v5) rfl (by kernel_rfl) (by kernel_rfl) (by kernel_rfl) (fun _ _ _ h => h) (Or.inl ⟨by rfl, ?hy5⟩) (by assumption) ?rest5
              case hy5 => (intro w hSw; (try dsimp only at hSw); simp only [List.getElem_toArray, List.getElem_cons_zero, List.getElem_cons_succ]; go_simp; (try with_reducible rfl))
              (try simp only [Act.put, List.getElem_toArray, List.getElem_cons_zero, List.getElem_cons_succ, List.setIfInBounds_toArray, List.set_cons_zero, List.set_cons_succ])
              refine wpAnyH_take (i := 4) (v := ?v6) rfl (by kernel_rfl) (by kernel_rfl) (by kernel_rfl) (fun _ _ _ h => h) (Or.inl ⟨by rfl, ?hy6⟩) (by assumption) ?rest6
              case hy6 => (intro w hSw; (try dsimp only at hSw); simp only [List.getElem_toArray, List.getElem_cons_zero, List.getElem_cons_succ]; go_simp; (try with_reducible rfl))
              (try simp only [Act.put, List.getElem_toArray, List.getElem_cons_zero, List.getElem_cons_succ, List.setIfInBounds_toArray, List.set_cons_zero, List.set_cons_succ])
              refine wpAnyH_take (i := 5) (v := ?v7) rfl (by kernel_rfl) (by kernel_rfl) (by kernel_rfl) (fun _ _ _ h => h) (Or.inl ⟨by rfl, ?hy7⟩) (by assumption) ?rest7
              case hy7 => (intro w hSw; (try dsimp only at hSw); simp only [List.getElem_toArray, List.getElem_cons_zero, List.getElem_cons_succ]; go_simp; (try with_reducible rfl))
              (try simp only [Act.put, List.getElem_toArray, List.getElem_cons_zero, List.getElem_cons_succ, List.setIfInBounds_toArray, List.set_cons_zero, List.set_cons_succ])
              refine wpAnyH_take (i := 6) (v := ?v8) rfl (by kernel_rfl) (by kernel_rfl) (by kernel_rfl) (fun _ _ _ h => h) (Or.inl ⟨by rfl, ?hy8⟩) (by assumption) ?rest8
              case hy8 => (intro w hSw; (try dsimp only at hSw); simp only [List.getElem_toArray, List.getElem_cons_zero, List.getElem_cons_succ]; go_simp; (try with_reducible rfl))
              (try simp only [Act.put, List.getElem_toArray, List.getElem_cons_zero, List.getElem_cons_succ, List.setIfInBounds_toArray, List.set_cons_zero, List.set_cons_succ])
              refine wpAnyH_take (i := 7) (v := ?v9) rfl (by kernel_rfl) (by kernel_rfl) (by kernel_rfl) (fun _ _ _ h => h) (Or.inl ⟨by rfl, ?hy9⟩) (by assumption) ?rest9
              case hy9 => (intro w hSw; (try dsimp only at hSw); simp only [List.getElem_toArray, List.getElem_cons_zero, List.getElem_cons_succ]; go_simp; (try with_reducible rfl))
              (try simp only [Act.put, List.getElem_toArray, List.getElem_cons_zero, List.getElem_cons_succ, List.setIfInBounds_toArray, List.set_cons_zero, List.set_cons_succ])
              refine wpAnyH_take (i := 8) (v := ?v10) rfl (by kernel_rfl) (by kernel_rfl) (by kernel_rfl) (fun _ _ _ h => h) (Or.inl ⟨by rfl, ?hy10⟩) (by assumption) ?rest10
              case hy10 => (intro w hSw; (try dsimp only at hSw); simp only [List.getElem_toArray, List.getElem_cons_zero, List.getElem_cons_succ]; go_simp; (try with_reducible rfl))
              (try simp only [Act.put, List.getElem_toArray, List.getElem_cons_zero, List.getElem_cons_succ, List.setIfInBounds_toArray, List.set_cons_zero, List.set_cons_succ])
              refine wpAnyH_take (i := 9) (v := ?v11) rfl (by kernel_rfl) (by kernel_rfl) (by kernel_rfl) (fun _ _ _ h => h) (Or.inl ⟨by rfl, ?hy11⟩) (by assumption) ?rest11
              case hy11 => (intro w hSw; (try dsimp only at hSw); simp only [List.getElem_toArray, List.getElem_cons_zero, List.getElem_cons_succ]; go_simp; (try with_reducible rfl))
              (try simp only [Act.put, List.getElem_toArray, List.getElem_cons_zero, List.getElem_cons_succ, List.setIfInBounds_toArray, List.set_cons_zero, List.set_cons_succ])
              refine wpAnyH_take (i := 10) (v := ?v12) rfl (by kernel_rfl) (by kernel_rfl) (by kernel_rfl) (fun _ _ _ h => h) (Or.inl ⟨by rfl, ?hy12⟩) (by assumption) ?rest12
              case hy12 => (intro w hSw; (try dsimp only at hSw); simp only [List.getElem_toArray, List.getElem_cons_zero, List.getElem_cons_succ]; go_simp; (try with_reducible rfl))
              (try simp only [Act.put, List.getElem_toArray, List.getElem_cons_zero, List.getElem_cons_succ, List.setIfInBounds_toArray, List.set_cons_zero, List.set_cons_succ])
              refine wpAnyH_ready (rs := [11, 14]) (by kernel_rfl) (by simp) ?_
              refine AllReadyH.cons rfl (fun KK hK => ?_) ?_
              · simp only [List.getElem_toArray, List.getElem_cons_zero, List.getElem_cons_succ]
                go_simp
                refine calls_same (HWi.out _) ?_
                refine hK.out _ _ ?hS13 (fun hHeld2 => ?rest13)
                case hS13 => exact hHeld
                clear hK KK
                (try clear hHeld)
                have hHeld := hHeld2
                clear hHeld2
                (try simp only [Act.put, List.getElem_toArray, List.getElem_cons_zero, List.getElem_cons_succ, List.setIfInBounds_toArray, List.set_cons_zero, List.set_cons_succ])
                refine wpAnyH_take (i := 12) (v := ?v14) rfl (by kernel_rfl) (by kernel_rfl) (by kernel_rfl) (fun _ _ _ h => h) (Or.inl ⟨by rfl, ?hy14⟩) (by assumption) ?rest14
                case hy14 => (intro w hSw; (try dsimp only at hSw); simp only [List.getElem_toArray, List.getElem_cons_zero, List.getElem_cons_succ]; go_simp; (try with_reducible rfl))
                (try simp only [Act.put, List.getElem_toArray, List.getElem_cons_zero, List.getElem_cons_succ, List.setIfInBounds_toArray, List.set_cons_zero, List.set_cons_succ])
                refine wpAnyH_take (i := 13) (v := ?v15) rfl (by kernel_rfl) (by kernel_rfl) (by kernel_rfl) (fun _ _ _ h => h) (Or.inl ⟨by rfl, ?hy15⟩) (by assumption) ?rest15
                case hy15 => (intro w hSw; (try dsimp only at hSw); simp only [List.getElem_toArray, List.getElem_cons_zero, List.getElem_cons_succ]; go_simp; (try with_reducible rfl))
                (try simp only [Act.put, List.getElem_toArray, List.getElem_cons_zero, List.getElem_cons_succ, List.setIfInBounds_toArray, List.set_cons_zero, List.set_cons_succ])
                refine wpAnyH_ready (rs := [14]) (by kernel_rfl) (by simp) ?_
                refine AllReadyH.cons rfl (fun KK hK => ?_) ?_
                · simp only [List.getElem_toArray, List.getElem_cons_zero, List.getElem_cons_succ]
                  go_simp
                  obtain ⟨bd, hbd⟩ : ∃ B, Z.heap.size = B := ⟨_, rfl⟩
                  obtain ⟨XD, hW⟩ : ∃ W, Z.alloc (.cells #[.int .i64 0, .int .i64 0, .int .i64 0, .int .i64 0, .int .i64 0] 36) = W := ⟨_, rfl⟩
                  have o1 : Out 0 0 Z XD := by rw [← hW]; exact (Out.refl 0 0 _).alloc _
                  have fD : XD.heap[bd]? = some (bo 0 0 0 0 0) := by rw [← hW, ← hbd]; exact heap_alloc_new _ _
                  have nD : B1 < bd ∧ hi ≤ bd ∧ gb < bd ∧ b < bd ∧ W1.heap.size ≤ bd := by have h8 := OZ.size; have h9 := HK1.out; omega
                  have O1 : Out 0 0 W1 XD := OZ.trans o1
                  (try rw [hW])
                  (try rw [hbd])
                  clear hW hbd
                  refine hK.out _ _ ?hS16 (fun hHeld2 => ?rest16)
                  case hS16 => exact ⟨o1.cell hHeld.1 (.inr (Nat.zero_le _)), o1.cell hHeld.2.1 (.inr (Nat.zero_le _)), o1.cell hHeld.2.2.1 (.inr (Nat.zero_le _)), o1.cell hHeld.2.2.2.1 (.inr (Nat.zero_le _)), o1.cell hHeld.2.2.2.2.1 (.inr (Nat.zero_le _)), o1.cell hHeld.2.2.2.2.2.1 (.inr (Nat.zero_le _)), o1.cell hHeld.2.2.2.2.2.2 (.inr (Nat.zero_le _))⟩
                  clear o1
                  clear hK KK
                  (try clear hHeld)
                  have hHeld := hHeld2
                  clear hHeld2
                  (try simp only [Act.put, List.getElem_toArray, List.getElem_cons_zero, List.getElem_cons_succ, List.setIfInBounds_toArray, List.set_cons_zero, List.set_cons_succ])
                  refine wpAnyH_ready (rs := [15]) (by kernel_rfl) (by simp) ?_
                  refine AllReadyH.cons rfl (fun KK hK => ?_) ?_
                  · simp only [List.getElem_toArray, List.getElem_cons_zero, List.getElem_cons_succ]
                    obtain ⟨y5, y6, y7, y8, y9⟩ := bo_facts fD
                    have yf : ∀ j, XD.frozen? ⟨bd, j, none⟩ = false := fun j => by unfold bo at fD; simp [World.frozen?, fD]
                    go_simp
                    clear y5 y6 y7 y8 y9 yf
                    obtain ⟨W2, hXE⟩ : ∃ W, ((((XD.setCell ⟨bd, 0, none⟩ (.int .i64 (ba : Int))).setCell ⟨bd, 1, none⟩ (.int .i64 bk)).setCell ⟨bd, 2, none⟩ (.int .i64 bz)).setCell ⟨bd, 3, none⟩ (.int .i64 bx)).setCell ⟨bd, 4, none⟩ (.int .i64 bt) = W := ⟨_, rfl⟩
                    have o1 : Out bd (bd + 1) XD W2 := by rw [← hXE]; exact bo_out _ _ _ _ _ _ _
                    have fD2 : W2.heap[bd]? = some (bo (ba : Int) bk bz bx bt) := by rw [← hXE]; exact bo_set fD _ _ _ _ _
                    rw [hXE]
                    clear hXE fD
                    have fD := fD2
                    clear fD2
                    refine hK.out _ _ ?hS17 (fun hHeld2 => ?rest17)
                    case hS17 => exact ⟨o1.cell hHeld.1 (.inl (by omega)), o1.cell hHeld.2.1 (.inl (by omega)), o1.cell hHeld.2.2.1 (.inl (by omega)), o1.cell hHeld.2.2.2.1 (.inl (by omega)), o1.cell hHeld.2.2.2.2.1 (.inl (by omega)), o1.cell hHeld.2.2.2.2.2.1 (.inl (by omega)), o1.cell hHeld.2.2.2.2.2.2 (.inl (by omega))⟩
                    clear hK KK
                    (try clear hHeld)
                    have hHeld := hHeld2
                    clear hHeld2
                    (try simp only [Act.put, List.getElem_toArray, List.getElem_cons_zero, List.getElem_cons_succ, List.setIfInBounds_toArray, List.set_cons_zero, List.set_cons_succ])
                    refine wpAnyH_done (by kernel_rfl) ?_ _
                    clear hHeld
                    have O12 : Out 0 0 W1 W2 := O1.past o1 nD.2.2.2.2
                    have fWs : WSt w0 b N lo hi cap s W2 st1 l1 := HWq.out.quiet O12
                    have fO : W2.heap[B1]? = some (.cells #[.int .i64 x, .int .i64 3, .int .i64 a, .int .i64 bb, .int .i64 c, .slice lp L.length lc] 69 (0, 0)) := O12.heap HB1.out (.inr (Nat.zero_le _))
                    have fv := O12.cell d2 (.inr (Nat.zero_le _))
                    have e1 := O12.cell d1 (.inr (Nat.zero_le _))
                    have tD := bo_facts fD
                    have tO := op_box fO
                    have HK : Hid (b < lo ∧ hi ≤ bd ∧ hi ≤ B1 ∧ B1 < bd ∧ lo ≤ hi ∧ b < bd ∧ gb < bd ∧ w0.heap.size ≤ B1) := by have h9 := HK1.out; have h10 := fWs.1; show _ ∧ _; omega
                    obtain ⟨o5, o6, o7, o8, o9⟩ := tO
                    have tO := op_box fO
                    clear o1 O1 OZ O12 d1 d2 y0 y1 y2 y3 y4 b1A nD
                    go_wp2_with fail
                    clear o5 o6 o7 o8 o9
                    refine wp_region_held_drew (S := fun w' => w'.cell? ⟨b, 1, none⟩ = some (.pointer (some ⟨s 14, 0, none⟩)) ∧ w'.cell? ⟨bd, 0, none⟩ = some (.int .i64 (ba : Int)) ∧ w'.cell? ⟨B1, 3, none⟩ = some (.int .i64 bb) ∧ w'.cell? ⟨B1, 4, none⟩ = some (.int .i64 c)) (by kernel_rfl) ?hS23 (fun hHeld => ?rest23)
                    case hS23 => exact ⟨e1, tD.1, tO.2.2.1, tO.2.2.2.1⟩
                    obtain ⟨Z2, hZ⟩ : ∃ Z, W2.drew = Z := ⟨_, rfl⟩
                    have OZ2 : Out 0 0 W2 Z2 := by rw [← hZ]; exact (Out.refl 0 0 W2).drew
                    rw [hZ] at hHeld ⊢
                    clear hZ
                    replace fv := OZ2.cell fv (.inr (Nat.zero_le _))
                    replace tD := bo_facts (OZ2.heap fD (.inr (Nat.zero_le _)))
                    replace fD := OZ2.heap fD (.inr (Nat.zero_le _))
                    replace tO := op_box (OZ2.heap fO (.inr (Nat.zero_le _)))
                    replace fO := OZ2.heap fO (.inr (Nat.zero_le _))
                    replace fWs := fWs.quiet OZ2
                    clear OZ2
                    refine wpAnyH_take (i := 0) (v := ?v24) rfl (by kernel_rfl) (by kernel_rfl) (by kernel_rfl) (fun _ _ _ h => h) (Or.inl ⟨by rfl, ?hy24⟩) (by assumption) ?rest24
                    case hy24 => (intro w hSw; (try dsimp only at hSw); simp only [List.getElem_toArray, List.getElem_cons_zero, List.getElem_cons_succ]; go_simp; (try with_reducible rfl))
                    (try simp only [Act.put, List.getElem_toArray, List.getElem_cons_zero, List.getElem_cons_succ, List.setIfInBounds_toArray, List.set_cons_zero, List.set_cons_succ])
                    refine wpAnyH_take (i := 1) (v := ?v25) rfl (by kernel_rfl) (by kernel_rfl) (by kernel_rfl) (fun _ _ _ h => h) (Or.inl ⟨by rfl, ?hy25⟩) (by assumption) ?rest25
                    case hy25 => (intro w hSw; (try dsimp only at hSw); simp only [List.getElem_toArray, List.getElem_cons_zero, List.getElem_cons_succ]; go_simp; (try with_reducible rfl))
                    (try simp only [Act.put, List.getElem_toArray, List.getElem_cons_zero, List.getElem_cons_succ, List.setIfInBounds_toArray, List.set_cons_zero, List.set_cons_succ])
                    refine wpAnyH_take (i := 2) (v := ?v26) rfl (by kernel_rfl) (by kernel_rfl) (by kernel_rfl) (fun _ _ _ h => h) (Or.inl ⟨by rfl, ?hy26⟩) (by assumption) ?rest26
                    case hy26 => (intro w hSw; (try dsimp only at hSw); simp only [List.getElem_toArray, List.getElem_cons_zero, List.getElem_cons_succ]; go_simp; (try with_reducible rfl))
                    (try simp only [Act.put, List.getElem_toArray, List.getElem_cons_zero, List.getElem_cons_succ, List.setIfInBounds_toArray, List.set_cons_zero, List.set_cons_succ])
                    refine wpAnyH_take (i := 3) (v := ?v27) rfl (by kernel_rfl) (by kernel_rfl) (by kernel_rfl) (fun _ _ _ h => h) (Or.inl ⟨by rfl, ?hy27⟩) (by assumption) ?rest27
                    case hy27 => (intro w hSw; (try dsimp only at hSw); simp only [List.getElem_toArray, List.getElem_cons_zero, List.getElem_cons_succ]; go_simp; (try with_reducible rfl))
                    (try simp only [Act.put, List.getElem_toArray, List.getElem_cons_zero, List.getElem_cons_succ, List.setIfInBounds_toArray, List.set_cons_zero, List.set_cons_succ])
                    refine wpAnyH_take (i := 4) (v := ?v28) rfl (by kernel_rfl) (by kernel_rfl) (by kernel_rfl) (fun _ _ _ h => h) (Or.inl ⟨by rfl, ?hy28⟩) (by assumption) ?rest28
                    case hy28 => (intro w hSw; (try dsimp only at hSw); simp only [List.getElem_toArray, List.getElem_cons_zero, List.getElem_cons_succ]; go_simp; (try with_reducible rfl))
                    (try simp only [Act.put, List.getElem_toArray, List.getElem_cons_zero, List.getElem_cons_succ, List.setIfInBounds_toArray, List.set_cons_zero, List.set_cons_succ])
                    refine wpAnyH_take (i := 5) (v := ?v29) rfl (by kernel_rfl) (by kernel_rfl) (by kernel_rfl) (fun _ _ _ h => h) (Or.inl ⟨by rfl, ?hy29⟩) (by assumption) ?rest29
                    case hy29 => (intro w hSw; (try dsimp only at hSw); simp only [List.getElem_toArray, List.getElem_cons_zero, List.getElem_cons_succ]; go_simp; (try with_reducible rfl))
                    (try simp only [Act.put, List.getElem_toArray, List.getElem_cons_zero, List.getElem_cons_succ, List.setIfInBounds_toArray, List.set_cons_zero, List.set_cons_succ])
                    refine wpAnyH_take (i := 6) (v := ?v30) rfl (by kernel_rfl) (by kernel_rfl) (by kernel_rfl) (fun _ _ _ h => h) (Or.inl ⟨by rfl, ?hy30⟩) (by assumption) ?rest30
                    case hy30 => (intro w hSw; (try dsimp only at hSw); simp only [List.getElem_toArray, List.getElem_cons_zero, List.getElem_cons_succ]; go_simp; (try with_reducible rfl))
                    (try simp only [Act.put, List.getElem_toArray, List.getElem_cons_zero, List.getElem_cons_succ, List.setIfInBounds_toArray, List.set_cons_zero, List.set_cons_succ])
                    refine wpAnyH_take (i := 7) (v := ?v31) rfl (by kernel_rfl) (by kernel_rfl) (by kernel_rfl) (fun _ _ _ h => h) (Or.inl ⟨by rfl, ?hy31⟩) (by assumption) ?rest31
                    case hy31 => (intro w hSw; (try dsimp only at hSw); simp only [List.getElem_toArray, List.getElem_cons_zero, List.getElem_cons_succ]; go_simp; (try with_reducible rfl))
                    (try simp only [Act.put, List.getElem_toArray, List.getElem_cons_zero, List.getElem_cons_succ, List.setIfInBounds_toArray, List.set_cons_zero, List.set_cons_succ])
                    refine wpAnyH_take (i := 8) (v := ?v32) rfl (by kernel_rfl) (by kernel_rfl) (by kernel_rfl) (fun _ _ _ h => h) (Or.inl ⟨by rfl, ?hy32⟩) (by assumption) ?rest32
                    case hy32 => (intro w hSw; (try dsimp only at hSw); simp only [List.getElem_toArray, List.getElem_cons_zero, List.getElem_cons_succ]; go_simp; (try with_reducible rfl))
                    (try simp only [Act.put, List.getElem_toArray, List.getElem_cons_zero, List.getElem_cons_succ, List.setIfInBounds_toArray, List.set_cons_zero, List.set_cons_succ])
                    refine wpAnyH_take (i := 9) (v := ?v33) rfl (by kernel_rfl) (by kernel_rfl) (by kernel_rfl) (fun _ _ _ h => h) (Or.inl ⟨by rfl, ?hy33⟩) (by assumption) ?rest33
                    case hy33 => (intro w hSw; (try dsimp only at hSw); simp only [List.getElem_toArray, List.getElem_cons_zero, List.getElem_cons_succ]; go_simp; (try with_reducible rfl))
                    (try simp only [Act.put, List.getElem_toArray, List.getElem_cons_zero, List.getElem_cons_succ, List.setIfInBounds_toArray, List.set_cons_zero, List.set_cons_succ])
                    refine wpAnyH_ready (rs := [10, 11]) (by kernel_rfl) (by simp) ?_
                    refine AllReadyH.cons rfl (fun KK hK => ?_) ?_
                    · simp only [List.getElem_toArray, List.getElem_cons_zero, List.getElem_cons_succ]
                      go_simp
                      refine (write_wst fWs HQ.out.2.2.2 bb c).mono ?_
                      rintro e YW ⟨er, rfl, her, fWs2, o1⟩
                      replace fv := o1.cell fv (.inl (by have := HK.out; omega))
                      replace tD := bo_facts (o1.heap fD (.inr (by have := HK.out; omega)))
                      replace fD := o1.heap fD (.inr (by have := HK.out; omega))
                      replace tO := op_box (o1.heap fO (.inr (by have := HK.out; omega)))
                      replace fO := o1.heap fO (.inr (by have := HK.out; omega))
                      clear fWs
                      have fWs := fWs2
                      clear fWs2
                      refine hK.out _ _ ?hS34 (fun hHeld2 => ?rest34)
                      case hS34 => exact ⟨o1.cell hHeld.1 (.inl (by have := HK.out; omega)), o1.cell hHeld.2.1 (.inr (by have := HK.out; omega)), o1.cell hHeld.2.2.1 (.inr (by have := HK.out; omega)), o1.cell hHeld.2.2.2 (.inr (by have := HK.out; omega))⟩
                      clear o1
                      clear hK KK
                      (try clear hHeld)
                      have hHeld := hHeld2
                      clear hHeld2
                      (try simp only [Act.put, List.getElem_toArray, List.getElem_cons_zero, List.getElem_cons_succ, List.setIfInBounds_toArray, List.set_cons_zero, List.set_cons_succ])
                      refine wpAnyH_ready (rs := [11]) (by kernel_rfl) (by simp) ?_
                      refine AllReadyH.cons rfl (fun KK hK => ?_) ?_
                      · simp only [List.getElem_toArray, List.getElem_cons_zero, List.getElem_cons_succ]
                        go_simp
                        obtain ⟨bf, hbf⟩ : ∃ B, YW.heap.size = B := ⟨_, rfl⟩
                        obtain ⟨YWF, hW⟩ : ∃ W, YW.alloc (.cells #[.int .i64 0, .int .i64 0] 57) = W := ⟨_, rfl⟩
                        have o1 : Out 0 0 YW YWF := by rw [← hW]; exact (Out.refl 0 0 _).alloc _
                        have fF : YWF.heap[bf]? = some (.cells #[.int .i64 0, .int .i64 0] 57 (0, 0)) := by rw [← hW, ← hbf]; exact heap_alloc_new _ _
                        have nF : hi ≤ bf ∧ bd < bf ∧ B1 < bf := by
                          have h8 := fWs.2.2.1.1.top
                          have h9 := heap_lt fD
                          have h10 := heap_lt fO
                          omega
                        replace fv := o1.cell fv (.inr (Nat.zero_le _))
                        replace tD := bo_facts (o1.heap fD (.inr (Nat.zero_le _)))
                        replace fD := o1.heap fD (.inr (Nat.zero_le _))
                        replace tO := op_box (o1.heap fO (.inr (Nat.zero_le _)))
                        replace fO := o1.heap fO (.inr (Nat.zero_le _))
                        replace fWs := fWs.quiet o1
                        (try rw [hW])
                        (try rw [hbf])
                        clear hW hbf
                        refine hK.out _ _ ?hS35 (fun hHeld2 => ?rest35)
                        case hS35 => exact ⟨o1.cell hHeld.1 (.inr (Nat.zero_le _)), o1.cell hHeld.2.1 (.inr (Nat.zero_le _)), o1.cell hHeld.2.2.1 (.inr (Nat.zero_le _)), o1.cell hHeld.2.2.2 (.inr (Nat.zero_le _))⟩
                        clear o1
                        clear hK KK
                        (try clear hHeld)
                        have hHeld := hHeld2
                        clear hHeld2
                        (try simp only [Act.put, List.getElem_toArray, List.getElem_cons_zero, List.getElem_cons_succ, List.setIfInBounds_toArray, List.set_cons_zero, List.set_cons_succ])
                        refine wpAnyH_ready (rs := [12]) (by kernel_rfl) (by simp) ?_
                        refine AllReadyH.cons rfl (fun KK hK => ?_) ?_
                        · simp only [List.getElem_toArray, List.getElem_cons_zero, List.getElem_cons_succ]
                          have fvx := fv
                          obtain ⟨y5, y6, y7, y8⟩ := flt_facts fF
                          go_simp
                          clear y5 y6 y7 y8
                          obtain ⟨XE, hXE⟩ : ∃ W, (YWF.setCell ⟨bf, 0, none⟩ (.int .i64 er)).setCell ⟨bf, 1, none⟩ (.int .i64 0) = W := ⟨_, rfl⟩
                          have o1 : Out bf (bf + 1) YWF XE := by rw [← hXE]; exact (Out.refl _ _ _).set2 (.inl ⟨Nat.le_refl _, Nat.lt_succ_self _⟩) _ _
                          have fF2 : XE.heap[bf]? = some (.cells #[.int .i64 er, .int .i64 0] 57 (0, 0)) := by rw [← hXE]; exact flt_set fF
                          rw [hXE]
                          clear hXE fF
                          have fF := fF2
                          clear fF2
                          replace fv := o1.cell fv (.inl (by have := HK.out; omega))
                          replace tD := bo_facts (o1.heap fD (.inl (by omega)))
                          replace fD := o1.heap fD (.inl (by omega))
                          replace tO := op_box (o1.heap fO (.inl (by omega)))
                          replace fO := o1.heap fO (.inl (by omega))
                          have fWs2 : WSt w0 b N lo hi cap s XE (wrP st1 (ba, bk, bz, bx, bt) bb c) l1 := fWs.far o1 (by have := HK.out; omega) (fun v hv => by
                            have h8 := hv.cells.2.2.1
                            rw [fvx] at h8
                            cases h8
                            intro h9
                            have h10 : gb = bf := by simpa [Value.ownBlock] using h9
                            have := HK.out
                            omega)
                          clear fWs
                          have fWs := fWs2
                          clear fWs2
                          have O1 := o1
                          refine hK.out _ _ ?hS36 (fun hHeld2 => ?rest36)
                          case hS36 => exact ⟨o1.cell hHeld.1 (.inl (by have := HK.out; omega)), o1.cell hHeld.2.1 (.inl (by have := HK.out; omega)), o1.cell hHeld.2.2.1 (.inl (by have := HK.out; omega)), o1.cell hHeld.2.2.2 (.inl (by have := HK.out; omega))⟩
                          clear o1
                          clear hK KK
                          (try clear hHeld)
                          have hHeld := hHeld2
                          clear hHeld2
                          (try simp only [Act.put, List.getElem_toArray, List.getElem_cons_zero, List.getElem_cons_succ, List.setIfInBounds_toArray, List.set_cons_zero, List.set_cons_succ])
                          refine wpAnyH_done (by kernel_rfl) ?_ _
                          clear hHeld
                          have hFf := flt_facts fF
                          obtain ⟨p0, p1, p2, p3⟩ := hFf
                          have z2 := tD.2.2.1
                          have z3 := tO.2.2.1
                          have FINW := hid_mk fWs
                          clear tD tO fWs fF p1 p2 p3 O1 fv fvx fD fO nF
                          by_cases b1 : 1 ≤ bb
                          · by_cases b2 : bb < bz
                            · have g1 : decide (1 ≤ bb) = true := decide_eq_true b1
                              have g2 : decide (bb < bz) = true := decide_eq_true b2
                              rw [g1, g2] at her
                              have ee : (er == 0) = true := her
                              go_wp2
                              go_roundw
                              case rel =>
                                refine ⟨i + 1, by go_num, by omega, by omega, ?_⟩
                                rw [HPl.out]
                                have hlp : ¬ l1.length = 0 := by rw [HQ.out.1]; omega
                                unfold opP
                                simp only [if_neg hlp, show ¬ ((3 : Int) = 1) from by omega, if_false, if_true]
                                rw [HQ.out.1, HQ.out.2.1, HQ.out.2.2.1]
                                exact FINW.out
                              case measure => simp [intOf]; omega
                            · have g1 : decide (1 ≤ bb) = true := decide_eq_true b1
                              have g2 : decide (bb < bz) = false := decide_eq_false b2
                              rw [g1, g2] at her
                              have ee : (er == 0) = false := her
                              go_wp2
                              go_roundw
                              case rel =>
                                refine ⟨i + 1, by go_num, by omega, by omega, ?_⟩
                                rw [HPl.out]
                                have hlp : ¬ l1.length = 0 := by rw [HQ.out.1]; omega
                                unfold opP
                                simp only [if_neg hlp, show ¬ ((3 : Int) = 1) from by omega, if_false, if_true]
                                rw [HQ.out.1, HQ.out.2.1, HQ.out.2.2.1]
                                exact FINW.out
                              case measure => simp [intOf]; omega
                          · have g1 : decide (1 ≤ bb) = false := decide_eq_false b1
                            obtain ⟨u2, g2⟩ : ∃ u2, decide (bb < bz) = u2 := ⟨_, rfl⟩
                            rw [g1, g2] at her
                            have ee : (er == 0) = false := her
                            go_wp2
                            go_roundw
                            case rel =>
                              refine ⟨i + 1, by go_num, by omega, by omega, ?_⟩
                              rw [HPl.out]
                              have hlp : ¬ l1.length = 0 := by rw [HQ.out.1]; omega
                              unfold opP
                              simp only [if_neg hlp, show ¬ ((3 : Int) = 1) from by omega, if_false, if_true]
                              rw [HQ.out.1, HQ.out.2.1, HQ.out.2.2.1]
                              exact FINW.out
                            case measure => simp [intOf]; omega
                        · exact AllReadyH.nil
                      · exact AllReadyH.nil
                    · refine AllReadyH.cons rfl (fun KK hK => ?_) ?_
                      · simp only [List.getElem_toArray, List.getElem_cons_zero, List.getElem_cons_succ]
                        go_simp
                        obtain ⟨bf, hbf⟩ : ∃ B, Z2.heap.size = B := ⟨_, rfl⟩
                        obtain ⟨YF, hW⟩ : ∃ W, Z2.alloc (.cells #[.int .i64 0, .int .i64 0] 57) = W := ⟨_, rfl⟩
                        have o1 : Out 0 0 Z2 YF := by rw [← hW]; exact (Out.refl 0 0 _).alloc _
                        have fF : YF.heap[bf]? = some (.cells #[.int .i64 0, .int .i64 0] 57 (0, 0)) := by rw [← hW, ← hbf]; exact heap_alloc_new _ _
                        have nF : hi ≤ bf ∧ bd < bf ∧ B1 < bf := by
                          have h8 := fWs.2.2.1.1.top
                          have h9 := heap_lt fD
                          have h10 := heap_lt fO
                          omega
                        replace fv := o1.cell fv (.inr (Nat.zero_le _))
                        replace tD := bo_facts (o1.heap fD (.inr (Nat.zero_le _)))
                        replace fD := o1.heap fD (.inr (Nat.zero_le _))
                        replace tO := op_box (o1.heap fO (.inr (Nat.zero_le _)))
                        replace fO := o1.heap fO (.inr (Nat.zero_le _))
                        replace fWs := fWs.quiet o1
                        (try rw [hW])
                        (try rw [hbf])
                        clear hW hbf
                        refine hK.out _ _ ?hS37 (fun hHeld2 => ?rest37)
                        case hS37 => exact ⟨o1.cell hHeld.1 (.inr (Nat.zero_le _)), o1.cell hHeld.2.1 (.inr (Nat.zero_le _)), o1.cell hHeld.2.2.1 (.inr (Nat.zero_le _)), o1.cell hHeld.2.2.2 (.inr (Nat.zero_le _))⟩
                        clear o1
                        clear hK KK
                        (try clear hHeld)
                        have hHeld := hHeld2
                        clear hHeld2
                        (try simp only [Act.put, List.getElem_toArray, List.getElem_cons_zero, List.getElem_cons_succ, List.setIfInBounds_toArray, List.set_cons_zero, List.set_cons_succ])
                        refine wpAnyH_ready (rs := [10]) (by kernel_rfl) (by simp) ?_
                        refine AllReadyH.cons rfl (fun KK hK => ?_) ?_
                        · simp only [List.getElem_toArray, List.getElem_cons_zero, List.getElem_cons_succ]
                          go_simp
                          refine (write_wst fWs HQ.out.2.2.2 bb c).mono ?_
                          rintro e YFW ⟨er, rfl, her, fWs2, o1⟩
                          replace fv := o1.cell fv (.inl (by have := HK.out; omega))
                          replace tD := bo_facts (o1.heap fD (.inr (by have := HK.out; omega)))
                          replace fD := o1.heap fD (.inr (by have := HK.out; omega))
                          replace tO := op_box (o1.heap fO (.inr (by have := HK.out; omega)))
                          replace fO := o1.heap fO (.inr (by have := HK.out; omega))
                          replace fF := o1.heap fF (.inr (by have := HK.out; omega))
                          clear fWs
                          have fWs := fWs2
                          clear fWs2
                          refine hK.out _ _ ?hS38 (fun hHeld2 => ?rest38)
                          case hS38 => exact ⟨o1.cell hHeld.1 (.inl (by have := HK.out; omega)), o1.cell hHeld.2.1 (.inr (by have := HK.out; omega)), o1.cell hHeld.2.2.1 (.inr (by have := HK.out; omega)), o1.cell hHeld.2.2.2 (.inr (by have := HK.out; omega))⟩
                          clear o1
                          clear hK KK
                          (try clear hHeld)
                          have hHeld := hHeld2
                          clear hHeld2
                          (try simp only [Act.put, List.getElem_toArray, List.getElem_cons_zero, List.getElem_cons_succ, List.setIfInBounds_toArray, List.set_cons_zero, List.set_cons_succ])
                          refine wpAnyH_ready (rs := [12]) (by kernel_rfl) (by simp) ?_
                          refine AllReadyH.cons rfl (fun KK hK => ?_) ?_
                          · simp only [List.getElem_toArray, List.getElem_cons_zero, List.getElem_cons_succ]
                            have fvx := fv
                            obtain ⟨y5, y6, y7, y8⟩ := flt_facts fF
                            go_simp
                            clear y5 y6 y7 y8
                            obtain ⟨XE, hXE⟩ : ∃ W, (YFW.setCell ⟨bf, 0, none⟩ (.int .i64 er)).setCell ⟨bf, 1, none⟩ (.int .i64 0) = W := ⟨_, rfl⟩
                            have o1 : Out bf (bf + 1) YFW XE := by rw [← hXE]; exact (Out.refl _ _ _).set2 (.inl ⟨Nat.le_refl _, Nat.lt_succ_self _⟩) _ _
                            have fF2 : XE.heap[bf]? = some (.cells #[.int .i64 er, .int .i64 0] 57 (0, 0)) := by rw [← hXE]; exact flt_set fF
                            rw [hXE]
                            clear hXE fF
                            have fF := fF2
                            clear fF2
                            replace fv := o1.cell fv (.inl (by have := HK.out; omega))
                            replace tD := bo_facts (o1.heap fD (.inl (by omega)))
                            replace fD := o1.heap fD (.inl (by omega))
                            replace tO := op_box (o1.heap fO (.inl (by omega)))
                            replace fO := o1.heap fO (.inl (by omega))
                            have fWs2 : WSt w0 b N lo hi cap s XE (wrP st1 (ba, bk, bz, bx, bt) bb c) l1 := fWs.far o1 (by have := HK.out; omega) (fun v hv => by
                              have h8 := hv.cells.2.2.1
                              rw [fvx] at h8
                              cases h8
                              intro h9
                              have h10 : gb = bf := by simpa [Value.ownBlock] using h9
                              have := HK.out
                              omega)
                            clear fWs
                            have fWs := fWs2
                            clear fWs2
                            have O1 := o1
                            refine hK.out _ _ ?hS39 (fun hHeld2 => ?rest39)
                            case hS39 => exact ⟨o1.cell hHeld.1 (.inl (by have := HK.out; omega)), o1.cell hHeld.2.1 (.inl (by have := HK.out; omega)), o1.cell hHeld.2.2.1 (.inl (by have := HK.out; omega)), o1.cell hHeld.2.2.2 (.inl (by have := HK.out; omega))⟩
                            clear o1
                            clear hK KK
                            (try clear hHeld)
                            have hHeld := hHeld2
                            clear hHeld2
                            (try simp only [Act.put, List.getElem_toArray, List.getElem_cons_zero, List.getElem_cons_succ, List.setIfInBounds_toArray, List.set_cons_zero, List.set_cons_succ])
                            refine wpAnyH_done (by kernel_rfl) ?_ _
                            clear hHeld
                            have hFf := flt_facts fF
                            obtain ⟨p0, p1, p2, p3⟩ := hFf
                            have z2 := tD.2.2.1
                            have z3 := tO.2.2.1
                            have FINW := hid_mk fWs
                            clear tD tO fWs fF p1 p2 p3 O1 fv fvx fD fO nF
                            by_cases b1 : 1 ≤ bb
                            · by_cases b2 : bb < bz
                              · have g1 : decide (1 ≤ bb) = true := decide_eq_true b1
                                have g2 : decide (bb < bz) = true := decide_eq_true b2
                                rw [g1, g2] at her
                                have ee : (er == 0) = true := her
                                go_wp2
                                go_roundw
                                case rel =>
                                  refine ⟨i + 1, by go_num, by omega, by omega, ?_⟩
                                  rw [HPl.out]
                                  have hlp : ¬ l1.length = 0 := by rw [HQ.out.1]; omega
                                  unfold opP
                                  simp only [if_neg hlp, show ¬ ((3 : Int) = 1) from by omega, if_false, if_true]
                                  rw [HQ.out.1, HQ.out.2.1, HQ.out.2.2.1]
                                  exact FINW.out
                                case measure => simp [intOf]; omega
                              · have g1 : decide (1 ≤ bb) = true := decide_eq_true b1
                                have g2 : decide (bb < bz) = false := decide_eq_false b2
                                rw [g1, g2] at her
                                have ee : (er == 0) = false := her
                                go_wp2
                                go_roundw
                                case rel =>
                                  refine ⟨i + 1, by go_num, by omega, by omega, ?_⟩
                                  rw [HPl.out]
                                  have hlp : ¬ l1.length = 0 := by rw [HQ.out.1]; omega
                                  unfold opP
                                  simp only [if_neg hlp, show ¬ ((3 : Int) = 1) from by omega, if_false, if_true]
                                  rw [HQ.out.1, HQ.out.2.1, HQ.out.2.2.1]
                                  exact FINW.out
                                case measure => simp [intOf]; omega
                            · have g1 : decide (1 ≤ bb) = false := decide_eq_false b1
                              obtain ⟨u2, g2⟩ : ∃ u2, decide (bb < bz) = u2 := ⟨_, rfl⟩
                              rw [g1, g2] at her
                              have ee : (er == 0) = false := her
                              go_wp2
                              go_roundw
                              case rel =>
                                refine ⟨i + 1, by go_num, by omega, by omega, ?_⟩
                                rw [HPl.out]
                                have hlp : ¬ l1.length = 0 := by rw [HQ.out.1]; omega
                                unfold opP
                                simp only [if_neg hlp, show ¬ ((3 : Int) = 1) from by omega, if_false, if_true]
                                rw [HQ.out.1, HQ.out.2.1, HQ.out.2.2.1]
                                exact FINW.out
                              case measure => simp [intOf]; omega
                          · exact AllReadyH.nil
                        · exact AllReadyH.nil
                      · exact AllReadyH.nil
                  · exact AllReadyH.nil
                · exact AllReadyH.nil
              · refine AllReadyH.cons rfl (fun KK hK => ?_) ?_
                · simp only [List.getElem_toArray, List.getElem_cons_zero, List.getElem_cons_succ]
                  go_simp
                  obtain ⟨bd, hbd⟩ : ∃ B, Z.heap.size = B := ⟨_, rfl⟩
                  obtain ⟨XD, hW⟩ : ∃ W, Z.alloc (.cells #[.int .i64 0, .int .i64 0, .int .i64 0, .int .i64 0, .int .i64 0] 36) = W := ⟨_, rfl⟩
                  have o1 : Out 0 0 Z XD := by rw [← hW]; exact (Out.refl 0 0 _).alloc _
                  have fD : XD.heap[bd]? = some (bo 0 0 0 0 0) := by rw [← hW, ← hbd]; exact heap_alloc_new _ _
                  have nD : B1 < bd ∧ hi ≤ bd ∧ gb < bd ∧ b < bd ∧ W1.heap.size ≤ bd := by have h8 := OZ.size; have h9 := HK1.out; omega
                  have O1 : Out 0 0 W1 XD := OZ.trans o1
                  (try rw [hW])
                  (try rw [hbd])
                  clear hW hbd
                  refine hK.out _ _ ?hS18 (fun hHeld2 => ?rest18)
                  case hS18 => exact ⟨o1.cell hHeld.1 (.inr (Nat.zero_le _)), o1.cell hHeld.2.1 (.inr (Nat.zero_le _)), o1.cell hHeld.2.2.1 (.inr (Nat.zero_le _)), o1.cell hHeld.2.2.2.1 (.inr (Nat.zero_le _)), o1.cell hHeld.2.2.2.2.1 (.inr (Nat.zero_le _)), o1.cell hHeld.2.2.2.2.2.1 (.inr (Nat.zero_le _)), o1.cell hHeld.2.2.2.2.2.2 (.inr (Nat.zero_le _))⟩
                  clear o1
                  clear hK KK
                  (try clear hHeld)
                  have hHeld := hHeld2
                  clear hHeld2
                  (try simp only [Act.put, List.getElem_toArray, List.getElem_cons_zero, List.getElem_cons_succ, List.setIfInBounds_toArray, List.set_cons_zero, List.set_cons_succ])
                  refine wpAnyH_ready (rs := [11]) (by kernel_rfl) (by simp) ?_
                  refine AllReadyH.cons rfl (fun KK hK => ?_) ?_
                  · simp only [List.getElem_toArray, List.getElem_cons_zero, List.getElem_cons_succ]
                    go_simp
                    refine calls_same (HWi.out _) ?_
                    refine hK.out _ _ ?hS19 (fun hHeld2 => ?rest19)
                    case hS19 => exact hHeld
                    clear hK KK
                    (try clear hHeld)
                    have hHeld := hHeld2
                    clear hHeld2
                    (try simp only [Act.put, List.getElem_toArray, List.getElem_cons_zero, List.getElem_cons_succ, List.setIfInBounds_toArray, List.set_cons_zero, List.set_cons_succ])
                    refine wpAnyH_take (i := 12) (v := ?v20) rfl (by kernel_rfl) (by kernel_rfl) (by kernel_rfl) (fun _ _ _ h => h) (Or.inl ⟨by rfl, ?hy20⟩) (by assumption) ?rest20
                    case hy20 => (intro w hSw; (try dsimp only at hSw); simp only [List.getElem_toArray, List.getElem_cons_zero, List.getElem_cons_succ]; go_simp; (try with_reducible rfl))
                    (try simp only [Act.put, List.getElem_toArray, List.getElem_cons_zero, List.getElem_cons_succ, List.setIfInBounds_toArray, List.set_cons_zero, List.set_cons_succ])
                    refine wpAnyH_take (i := 13) (v := ?v21) rfl (by kernel_rfl) (by kernel_rfl) (by kernel_rfl) (fun _ _ _ h => h) (Or.inl ⟨by rfl, ?hy21⟩) (by assumption) ?rest21
                    case hy21 => (intro w hSw; (try dsimp only at hSw); simp only [List.getElem_toArray, List.getElem_cons_zero, List.getElem_cons_succ]; go_simp; (try with_reducible rfl))
                    (try simp only [Act.put, List.getElem_toArray, List.getElem_cons_zero, List.getElem_cons_succ, List.setIfInBounds_toArray, List.set_cons_zero, List.set_cons_succ])
                    refine wpAnyH_ready (rs := [15]) (by kernel_rfl) (by simp) ?_
                    refine AllReadyH.cons rfl (fun KK hK => ?_) ?_
                    · simp only [List.getElem_toArray, List.getElem_cons_zero, List.getElem_cons_succ]
                      obtain ⟨y5, y6, y7, y8, y9⟩ := bo_facts fD
                      have yf : ∀ j, XD.frozen? ⟨bd, j, none⟩ = false := fun j => by unfold bo at fD; simp [World.frozen?, fD]
                      go_simp
                      clear y5 y6 y7 y8 y9 yf
                      obtain ⟨W2, hXE⟩ : ∃ W, ((((XD.setCell ⟨bd, 0, none⟩ (.int .i64 (ba : Int))).setCell ⟨bd, 1, none⟩ (.int .i64 bk)).setCell ⟨bd, 2, none⟩ (.int .i64 bz)).setCell ⟨bd, 3, none⟩ (.int .i64 bx)).setCell ⟨bd, 4, none⟩ (.int .i64 bt) = W := ⟨_, rfl⟩
                      have o1 : Out bd (bd + 1) XD W2 := by rw [← hXE]; exact bo_out _ _ _ _ _ _ _
                      have fD2 : W2.heap[bd]? = some (bo (ba : Int) bk bz bx bt) := by rw [← hXE]; exact bo_set fD _ _ _ _ _
                      rw [hXE]
                      clear hXE fD
                      have fD := fD2
                      clear fD2
                      refine hK.out _ _ ?hS22 (fun hHeld2 => ?rest22)
                      case hS22 => exact ⟨o1.cell hHeld.1 (.inl (by omega)), o1.cell hHeld.2.1 (.inl (by omega)), o1.cell hHeld.2.2.1 (.inl (by omega)), o1.cell hHeld.2.2.2.1 (.inl (by omega)), o1.cell hHeld.2.2.2.2.1 (.inl (by omega)), o1.cell hHeld.2.2.2.2.2.1 (.inl (by omega)), o1.cell hHeld.2.2.2.2.2.2 (.inl (by omega))⟩
                      clear hK KK
                      (try clear hHeld)
                      have hHeld := hHeld2
                      clear hHeld2
                      (try simp only [Act.put, List.getElem_toArray, List.getElem_cons_zero, List.getElem_cons_succ, List.setIfInBounds_toArray, List.set_cons_zero, List.set_cons_succ])
                      refine wpAnyH_done (by kernel_rfl) ?_ _
                      clear hHeld
                      have O12 : Out 0 0 W1 W2 := O1.past o1 nD.2.2.2.2
                      have fWs : WSt w0 b N lo hi cap s W2 st1 l1 := HWq.out.quiet O12
                      have fO : W2.heap[B1]? = some (.cells #[.int .i64 x, .int .i64 3, .int .i64 a, .int .i64 bb, .int .i64 c, .slice lp L.length lc] 69 (0, 0)) := O12.heap HB1.out (.inr (Nat.zero_le _))
                      have fv := O12.cell d2 (.inr (Nat.zero_le _))
                      have e1 := O12.cell d1 (.inr (Nat.zero_le _))
                      have tD := bo_facts fD
                      have tO := op_box fO
                      have HK : Hid (b < lo ∧ hi ≤ bd ∧ hi ≤ B1 ∧ B1 < bd ∧ lo ≤ hi ∧ b < bd ∧ gb < bd ∧ w0.heap.size ≤ B1) := by have h9 := HK1.out; have h10 := fWs.1; show _ ∧ _; omega
                      obtain ⟨o5, o6, o7, o8, o9⟩ := tO
                      have tO := op_box fO
                      clear o1 O1 OZ O12 d1 d2 y0 y1 y2 y3 y4 b1A nD
                      go_wp2_with fail
                      clear o5 o6 o7 o8 o9
                      refine wp_region_held_drew (S := fun w' => w'.cell? ⟨b, 1, none⟩ = some (.pointer (some ⟨s 14, 0, none⟩)) ∧ w'.cell? ⟨bd, 0, none⟩ = some (.int .i64 (ba : Int)) ∧ w'.cell? ⟨B1, 3, none⟩ = some (.int .i64 bb) ∧ w'.cell? ⟨B1, 4, none⟩ = some (.int .i64 c)) (by kernel_rfl) ?hS40 (fun hHeld => ?rest40)
                      case hS40 => exact ⟨e1, tD.1, tO.2.2.1, tO.2.2.2.1⟩
                      obtain ⟨Z2, hZ⟩ : ∃ Z, W2.drew = Z := ⟨_, rfl⟩
                      have OZ2 : Out 0 0 W2 Z2 := by rw [← hZ]; exact (Out.refl 0 0 W2).drew
                      rw [hZ] at hHeld ⊢
                      clear hZ
                      replace fv := OZ2.cell fv (.inr (Nat.zero_le _))
                      replace tD := bo_facts (OZ2.heap fD (.inr (Nat.zero_le _)))
                      replace fD := OZ2.heap fD (.inr (Nat.zero_le _))
                      replace tO := op_box (OZ2.heap fO (.inr (Nat.zero_le _)))
                      replace fO := OZ2.heap fO (.inr (Nat.zero_le _))
                      replace fWs := fWs.quiet OZ2
                      clear OZ2
                      refine wpAnyH_take (i := 0) (v := ?v41) rfl (by kernel_rfl) (by kernel_rfl) (by kernel_rfl) (fun _ _ _ h => h) (Or.inl ⟨by rfl, ?hy41⟩) (by assumption) ?rest41
                      case hy41 => (intro w hSw; (try dsimp only at hSw); simp only [List.getElem_toArray, List.getElem_cons_zero, List.getElem_cons_succ]; go_simp; (try with_reducible rfl))
                      (try simp only [Act.put, List.getElem_toArray, List.getElem_cons_zero, List.getElem_cons_succ, List.setIfInBounds_toArray, List.set_cons_zero, List.set_cons_succ])
                      refine wpAnyH_take (i := 1) (v := ?v42) rfl (by kernel_rfl) (by kernel_rfl) (by kernel_rfl) (fun _ _ _ h => h) (Or.inl ⟨by rfl, ?hy42⟩) (by assumption) ?rest42
                      case hy42 => (intro w hSw; (try dsimp only at hSw); simp only [List.getElem_toArray, List.getElem_cons_zero, List.getElem_cons_succ]; go_simp; (try with_reducible rfl))
                      (try simp only [Act.put, List.getElem_toArray, List.getElem_cons_zero, List.getElem_cons_succ, List.setIfInBounds_toArray, List.set_cons_zero, List.set_cons_succ])
                      refine wpAnyH_take (i := 2) (v := ?v43) rfl (by kernel_rfl) (by kernel_rfl) (by kernel_rfl) (fun _ _ _ h => h) (Or.inl ⟨by rfl, ?hy43⟩) (by assumption) ?rest43
                      case hy43 => (intro w hSw; (try dsimp only at hSw); simp only [List.getElem_toArray, List.getElem_cons_zero, List.getElem_cons_succ]; go_simp; (try with_reducible rfl))
                      (try simp only [Act.put, List.getElem_toArray, List.getElem_cons_zero, List.getElem_cons_succ, List.setIfInBounds_toArray, List.set_cons_zero, List.set_cons_succ])
                      refine wpAnyH_take (i := 3) (v := ?v44) rfl (by kernel_rfl) (by kernel_rfl) (by kernel_rfl) (fun _ _ _ h => h) (Or.inl ⟨by rfl, ?hy44⟩) (by assumption) ?rest44
                      case hy44 => (intro w hSw; (try dsimp only at hSw); simp only [List.getElem_toArray, List.getElem_cons_zero, List.getElem_cons_succ]; go_simp; (try with_reducible rfl))
                      (try simp only [Act.put, List.getElem_toArray, List.getElem_cons_zero, List.getElem_cons_succ, List.setIfInBounds_toArray, List.set_cons_zero, List.set_cons_succ])
                      refine wpAnyH_take (i := 4) (v := ?v45) rfl (by kernel_rfl) (by kernel_rfl) (by kernel_rfl) (fun _ _ _ h => h) (Or.inl ⟨by rfl, ?hy45⟩) (by assumption) ?rest45
                      case hy45 => (intro w hSw; (try dsimp only at hSw); simp only [List.getElem_toArray, List.getElem_cons_zero, List.getElem_cons_succ]; go_simp; (try with_reducible rfl))
                      (try simp only [Act.put, List.getElem_toArray, List.getElem_cons_zero, List.getElem_cons_succ, List.setIfInBounds_toArray, List.set_cons_zero, List.set_cons_succ])
                      refine wpAnyH_take (i := 5) (v := ?v46) rfl (by kernel_rfl) (by kernel_rfl) (by kernel_rfl) (fun _ _ _ h => h) (Or.inl ⟨by rfl, ?hy46⟩) (by assumption) ?rest46
                      case hy46 => (intro w hSw; (try dsimp only at hSw); simp only [List.getElem_toArray, List.getElem_cons_zero, List.getElem_cons_succ]; go_simp; (try with_reducible rfl))
                      (try simp only [Act.put, List.getElem_toArray, List.getElem_cons_zero, List.getElem_cons_succ, List.setIfInBounds_toArray, List.set_cons_zero, List.set_cons_succ])
                      refine wpAnyH_take (i := 6) (v := ?v47) rfl (by kernel_rfl) (by kernel_rfl) (by kernel_rfl) (fun _ _ _ h => h) (Or.inl ⟨by rfl, ?hy47⟩) (by assumption) ?rest47
                      case hy47 => (intro w hSw; (try dsimp only at hSw); simp only [List.getElem_toArray, List.getElem_cons_zero, List.getElem_cons_succ]; go_simp; (try with_reducible rfl))
                      (try simp only [Act.put, List.getElem_toArray, List.getElem_cons_zero, List.getElem_cons_succ, List.setIfInBounds_toArray, List.set_cons_zero, List.set_cons_succ])
                      refine wpAnyH_take (i := 7) (v := ?v48) rfl (by kernel_rfl) (by kernel_rfl) (by kernel_rfl) (fun _ _ _ h => h) (Or.inl ⟨by rfl, ?hy48⟩) (by assumption) ?rest48
                      case hy48 => (intro w hSw; (try dsimp only at hSw); simp only [List.getElem_toArray, List.getElem_cons_zero, List.getElem_cons_succ]; go_simp; (try with_reducible rfl))
                      (try simp only [Act.put, List.getElem_toArray, List.getElem_cons_zero, List.getElem_cons_succ, List.setIfInBounds_toArray, List.set_cons_zero, List.set_cons_succ])
                      refine wpAnyH_take (i := 8) (v := ?v49) rfl (by kernel_rfl) (by kernel_rfl) (by kernel_rfl) (fun _ _ _ h => h) (Or.inl ⟨by rfl, ?hy49⟩) (by assumption) ?rest49
                      case hy49 => (intro w hSw; (try dsimp only at hSw); simp only [List.getElem_toArray, List.getElem_cons_zero, List.getElem_cons_succ]; go_simp; (try with_reducible rfl))
                      (try simp only [Act.put, List.getElem_toArray, List.getElem_cons_zero, List.getElem_cons_succ, List.setIfInBounds_toArray, List.set_cons_zero, List.set_cons_succ])
                      refine wpAnyH_take (i := 9) (v := ?v50) rfl (by kernel_rfl) (by kernel_rfl) (by kernel_rfl) (fun _ _ _ h => h) (Or.inl ⟨by rfl, ?hy50⟩) (by assumption) ?rest50
                      case hy50 => (intro w hSw; (try dsimp only at hSw); simp only [List.getElem_toArray, List.getElem_cons_zero, List.getElem_cons_succ]; go_simp; (try with_reducible rfl))
                      (try simp only [Act.put, List.getElem_toArray, List.getElem_cons_zero, List.getElem_cons_succ, List.setIfInBounds_toArray, List.set_cons_zero, List.set_cons_succ])
                      refine wpAnyH_ready (rs := [10, 11]) (by kernel_rfl) (by simp) ?_
                      refine AllReadyH.cons rfl (fun KK hK => ?_) ?_
                      · simp only [List.getElem_toArray, List.getElem_cons_zero, List.getElem_cons_succ]
                        go_simp
                        refine (write_wst fWs HQ.out.2.2.2 bb c).mono ?_
                        rintro e YW ⟨er, rfl, her, fWs2, o1⟩
                        replace fv := o1.cell fv (.inl (by have := HK.out; omega))
                        replace tD := bo_facts (o1.heap fD (.inr (by have := HK.out; omega)))
                        replace fD := o1.heap fD (.inr (by have := HK.out; omega))
                        replace tO := op_box (o1.heap fO (.inr (by have := HK.out; omega)))
                        replace fO := o1.heap fO (.inr (by have := HK.out; omega))
                        clear fWs
                        have fWs := fWs2
                        clear fWs2
                        refine hK.out _ _ ?hS51 (fun hHeld2 => ?rest51)
                        case hS51 => exact ⟨o1.cell hHeld.1 (.inl (by have := HK.out; omega)), o1.cell hHeld.2.1 (.inr (by have := HK.out; omega)), o1.cell hHeld.2.2.1 (.inr (by have := HK.out; omega)), o1.cell hHeld.2.2.2 (.inr (by have := HK.out; omega))⟩
                        clear o1
                        clear hK KK
                        (try clear hHeld)
                        have hHeld := hHeld2
                        clear hHeld2
                        (try simp only [Act.put, List.getElem_toArray, List.getElem_cons_zero, List.getElem_cons_succ, List.setIfInBounds_toArray, List.set_cons_zero, List.set_cons_succ])
                        refine wpAnyH_ready (rs := [11]) (by kernel_rfl) (by simp) ?_
                        refine AllReadyH.cons rfl (fun KK hK => ?_) ?_
                        · simp only [List.getElem_toArray, List.getElem_cons_zero, List.getElem_cons_succ]
                          go_simp
                          obtain ⟨bf, hbf⟩ : ∃ B, YW.heap.size = B := ⟨_, rfl⟩
                          obtain ⟨YWF, hW⟩ : ∃ W, YW.alloc (.cells #[.int .i64 0, .int .i64 0] 57) = W := ⟨_, rfl⟩
                          have o1 : Out 0 0 YW YWF := by rw [← hW]; exact (Out.refl 0 0 _).alloc _
                          have fF : YWF.heap[bf]? = some (.cells #[.int .i64 0, .int .i64 0] 57 (0, 0)) := by rw [← hW, ← hbf]; exact heap_alloc_new _ _
                          have nF : hi ≤ bf ∧ bd < bf ∧ B1 < bf := by
                            have h8 := fWs.2.2.1.1.top
                            have h9 := heap_lt fD
                            have h10 := heap_lt fO
                            omega
                          replace fv := o1.cell fv (.inr (Nat.zero_le _))
                          replace tD := bo_facts (o1.heap fD (.inr (Nat.zero_le _)))
                          replace fD := o1.heap fD (.inr (Nat.zero_le _))
                          replace tO := op_box (o1.heap fO (.inr (Nat.zero_le _)))
                          replace fO := o1.heap fO (.inr (Nat.zero_le _))
                          replace fWs := fWs.quiet o1
                          (try rw [hW])
                          (try rw [hbf])
                          clear hW hbf
                          refine hK.out _ _ ?hS52 (fun hHeld2 => ?rest52)
                          case hS52 => exact ⟨o1.cell hHeld.1 (.inr (Nat.zero_le _)), o1.cell hHeld.2.1 (.inr (Nat.zero_le _)), o1.cell hHeld.2.2.1 (.inr (Nat.zero_le _)), o1.cell hHeld.2.2.2 (.inr (Nat.zero_le _))⟩
                          clear o1
                          clear hK KK
                          (try clear hHeld)
                          have hHeld := hHeld2
                          clear hHeld2
                          (try simp only [Act.put, List.getElem_toArray, List.getElem_cons_zero, List.getElem_cons_succ, List.setIfInBounds_toArray, List.set_cons_zero, List.set_cons_succ])
                          refine wpAnyH_ready (rs := [12]) (by kernel_rfl) (by simp) ?_
                          refine AllReadyH.cons rfl (fun KK hK => ?_) ?_
                          · simp only [List.getElem_toArray, List.getElem_cons_zero, List.getElem_cons_succ]
                            have fvx := fv
                            obtain ⟨y5, y6, y7, y8⟩ := flt_facts fF
                            go_simp
                            clear y5 y6 y7 y8
                            obtain ⟨XE, hXE⟩ : ∃ W, (YWF.setCell ⟨bf, 0, none⟩ (.int .i64 er)).setCell ⟨bf, 1, none⟩ (.int .i64 0) = W := ⟨_, rfl⟩
                            have o1 : Out bf (bf + 1) YWF XE := by rw [← hXE]; exact (Out.refl _ _ _).set2 (.inl ⟨Nat.le_refl _, Nat.lt_succ_self _⟩) _ _
                            have fF2 : XE.heap[bf]? = some (.cells #[.int .i64 er, .int .i64 0] 57 (0, 0)) := by rw [← hXE]; exact flt_set fF
                            rw [hXE]
                            clear hXE fF
                            have fF := fF2
                            clear fF2
                            replace fv := o1.cell fv (.inl (by have := HK.out; omega))
                            replace tD := bo_facts (o1.heap fD (.inl (by omega)))
                            replace fD := o1.heap fD (.inl (by omega))
                            replace tO := op_box (o1.heap fO (.inl (by omega)))
                            replace fO := o1.heap fO (.inl (by omega))
                            have fWs2 : WSt w0 b N lo hi cap s XE (wrP st1 (ba, bk, bz, bx, bt) bb c) l1 := fWs.far o1 (by have := HK.out; omega) (fun v hv => by
                              have h8 := hv.cells.2.2.1
                              rw [fvx] at h8
                              cases h8
                              intro h9
                              have h10 : gb = bf := by simpa [Value.ownBlock] using h9
                              have := HK.out
                              omega)
                            clear fWs
                            have fWs := fWs2
                            clear fWs2
                            have O1 := o1
                            refine hK.out _ _ ?hS53 (fun hHeld2 => ?rest53)
                            case hS53 => exact ⟨o1.cell hHeld.1 (.inl (by have := HK.out; omega)), o1.cell hHeld.2.1 (.inl (by have := HK.out; omega)), o1.cell hHeld.2.2.1 (.inl (by have := HK.out; omega)), o1.cell hHeld.2.2.2 (.inl (by have := HK.out; omega))⟩
                            clear o1
                            clear hK KK
                            (try clear hHeld)
                            have hHeld := hHeld2
                            clear hHeld2
                            (try simp only [Act.put, List.getElem_toArray, List.getElem_cons_zero, List.getElem_cons_succ, List.setIfInBounds_toArray, List.set_cons_zero, List.set_cons_succ])
                            refine wpAnyH_done (by kernel_rfl) ?_ _
                            clear hHeld
                            have hFf := flt_facts fF
                            obtain ⟨p0, p1, p2, p3⟩ := hFf
                            have z2 := tD.2.2.1
                            have z3 := tO.2.2.1
                            have FINW := hid_mk fWs
                            clear tD tO fWs fF p1 p2 p3 O1 fv fvx fD fO nF
                            by_cases b1 : 1 ≤ bb
                            · by_cases b2 : bb < bz
                              · have g1 : decide (1 ≤ bb) = true := decide_eq_true b1
                                have g2 : decide (bb < bz) = true := decide_eq_true b2
                                rw [g1, g2] at her
                                have ee : (er == 0) = true := her
                                go_wp2
                                go_roundw
                                case rel =>
                                  refine ⟨i + 1, by go_num, by omega, by omega, ?_⟩
                                  rw [HPl.out]
                                  have hlp : ¬ l1.length = 0 := by rw [HQ.out.1]; omega
                                  unfold opP
                                  simp only [if_neg hlp, show ¬ ((3 : Int) = 1) from by omega, if_false, if_true]
                                  rw [HQ.out.1, HQ.out.2.1, HQ.out.2.2.1]
                                  exact FINW.out
                                case measure => simp [intOf]; omega
                              · have g1 : decide (1 ≤ bb) = true := decide_eq_true b1
                                have g2 : decide (bb < bz) = false := decide_eq_false b2
                                rw [g1, g2] at her
                                have ee : (er == 0) = false := her
                                go_wp2
                                go_roundw
                                case rel =>
                                  refine ⟨i + 1, by go_num, by omega, by omega, ?_⟩
                                  rw [HPl.out]
                                  have hlp : ¬ l1.length = 0 := by rw [HQ.out.1]; omega
                                  unfold opP
                                  simp only [if_neg hlp, show ¬ ((3 : Int) = 1) from by omega, if_false, if_true]
                                  rw [HQ.out.1, HQ.out.2.1, HQ.out.2.2.1]
                                  exact FINW.out
                                case measure => simp [intOf]; omega
                            · have g1 : decide (1 ≤ bb) = false := decide_eq_false b1
                              obtain ⟨u2, g2⟩ : ∃ u2, decide (bb < bz) = u2 := ⟨_, rfl⟩
                              rw [g1, g2] at her
                              have ee : (er == 0) = false := her
                              go_wp2
                              go_roundw
                              case rel =>
                                refine ⟨i + 1, by go_num, by omega, by omega, ?_⟩
                                rw [HPl.out]
                                have hlp : ¬ l1.length = 0 := by rw [HQ.out.1]; omega
                                unfold opP
                                simp only [if_neg hlp, show ¬ ((3 : Int) = 1) from by omega, if_false, if_true]
                                rw [HQ.out.1, HQ.out.2.1, HQ.out.2.2.1]
                                exact FINW.out
                              case measure => simp [intOf]; omega
                          · exact AllReadyH.nil
                        · exact AllReadyH.nil
                      · refine AllReadyH.cons rfl (fun KK hK => ?_) ?_
                        · simp only [List.getElem_toArray, List.getElem_cons_zero, List.getElem_cons_succ]
                          go_simp
                          obtain ⟨bf, hbf⟩ : ∃ B, Z2.heap.size = B := ⟨_, rfl⟩
                          obtain ⟨YF, hW⟩ : ∃ W, Z2.alloc (.cells #[.int .i64 0, .int .i64 0] 57) = W := ⟨_, rfl⟩
                          have o1 : Out 0 0 Z2 YF := by rw [← hW]; exact (Out.refl 0 0 _).alloc _
                          have fF : YF.heap[bf]? = some (.cells #[.int .i64 0, .int .i64 0] 57 (0, 0)) := by rw [← hW, ← hbf]; exact heap_alloc_new _ _
                          have nF : hi ≤ bf ∧ bd < bf ∧ B1 < bf := by
                            have h8 := fWs.2.2.1.1.top
                            have h9 := heap_lt fD
                            have h10 := heap_lt fO
                            omega
                          replace fv := o1.cell fv (.inr (Nat.zero_le _))
                          replace tD := bo_facts (o1.heap fD (.inr (Nat.zero_le _)))
                          replace fD := o1.heap fD (.inr (Nat.zero_le _))
                          replace tO := op_box (o1.heap fO (.inr (Nat.zero_le _)))
                          replace fO := o1.heap fO (.inr (Nat.zero_le _))
                          replace fWs := fWs.quiet o1
                          (try rw [hW])
                          (try rw [hbf])
                          clear hW hbf
                          refine hK.out _ _ ?hS54 (fun hHeld2 => ?rest54)
                          case hS54 => exact ⟨o1.cell hHeld.1 (.inr (Nat.zero_le _)), o1.cell hHeld.2.1 (.inr (Nat.zero_le _)), o1.cell hHeld.2.2.1 (.inr (Nat.zero_le _)), o1.cell hHeld.2.2.2 (.inr (Nat.zero_le _))⟩
                          clear o1
                          clear hK KK
                          (try clear hHeld)
                          have hHeld := hHeld2
                          clear hHeld2
                          (try simp only [Act.put, List.getElem_toArray, List.getElem_cons_zero, List.getElem_cons_succ, List.setIfInBounds_toArray, List.set_cons_zero, List.set_cons_succ])
                          refine wpAnyH_ready (rs := [10]) (by kernel_rfl) (by simp) ?_
                          refine AllReadyH.cons rfl (fun KK hK => ?_) ?_
                          · simp only [List.getElem_toArray, List.getElem_cons_zero, List.getElem_cons_succ]
                            go_simp
                            refine (write_wst fWs HQ.out.2.2.2 bb c).mono ?_
                            rintro e YFW ⟨er, rfl, her, fWs2, o1⟩
                            replace fv := o1.cell fv (.inl (by have := HK.out; omega))
                            replace tD := bo_facts (o1.heap fD (.inr (by have := HK.out; omega)))
                            replace fD := o1.heap fD (.inr (by have := HK.out; omega))
                            replace tO := op_box (o1.heap fO (.inr (by have := HK.out; omega)))
                            replace fO := o1.heap fO (.inr (by have := HK.out; omega))
                            replace fF := o1.heap fF (.inr (by have := HK.out; omega))
                            clear fWs
                            have fWs := fWs2
                            clear fWs2
                            refine hK.out _ _ ?hS55 (fun hHeld2 => ?rest55)
                            case hS55 => exact ⟨o1.cell hHeld.1 (.inl (by have := HK.out; omega)), o1.cell hHeld.2.1 (.inr (by have := HK.out; omega)), o1.cell hHeld.2.2.1 (.inr (by have := HK.out; omega)), o1.cell hHeld.2.2.2 (.inr (by have := HK.out; omega))⟩
                            clear o1
                            clear hK KK
                            (try clear hHeld)
                            have hHeld := hHeld2
                            clear hHeld2
                            (try simp only [Act.put, List.getElem_toArray, List.getElem_cons_zero, List.getElem_cons_succ, List.setIfInBounds_toArray, List.set_cons_zero, List.set_cons_succ])
                            refine wpAnyH_ready (rs := [12]) (by kernel_rfl) (by simp) ?_
                            refine AllReadyH.cons rfl (fun KK hK => ?_) ?_
                            · simp only [List.getElem_toArray, List.getElem_cons_zero, List.getElem_cons_succ]
                              have fvx := fv
                              obtain ⟨y5, y6, y7, y8⟩ := flt_facts fF
                              go_simp
                              clear y5 y6 y7 y8
                              obtain ⟨XE, hXE⟩ : ∃ W, (YFW.setCell ⟨bf, 0, none⟩ (.int .i64 er)).setCell ⟨bf, 1, none⟩ (.int .i64 0) = W := ⟨_, rfl⟩
                              have o1 : Out bf (bf + 1) YFW XE := by rw [← hXE]; exact (Out.refl _ _ _).set2 (.inl ⟨Nat.le_refl _, Nat.lt_succ_self _⟩) _ _
                              have fF2 : XE.heap[bf]? = some (.cells #[.int .i64 er, .int .i64 0] 57 (0, 0)) := by rw [← hXE]; exact flt_set fF
                              rw [hXE]
                              clear hXE fF
                              have fF := fF2
                              clear fF2
                              replace fv := o1.cell fv (.inl (by have := HK.out; omega))
                              replace tD := bo_facts (o1.heap fD (.inl (by omega)))
                              replace fD := o1.heap fD (.inl (by omega))
                              replace tO := op_box (o1.heap fO (.inl (by omega)))
                              replace fO := o1.heap fO (.inl (by omega))
                              have fWs2 : WSt w0 b N lo hi cap s XE (wrP st1 (ba, bk, bz, bx, bt) bb c) l1 := fWs.far o1 (by have := HK.out; omega) (fun v hv => by
                                have h8 := hv.cells.2.2.1
                                rw [fvx] at h8
                                cases h8
                                intro h9
                                have h10 : gb = bf := by simpa [Value.ownBlock] using h9
                                have := HK.out
                                omega)
                              clear fWs
                              have fWs := fWs2
                              clear fWs2
                              have O1 := o1
                              refine hK.out _ _ ?hS56 (fun hHeld2 => ?rest56)
                              case hS56 => exact ⟨o1.cell hHeld.1 (.inl (by have := HK.out; omega)), o1.cell hHeld.2.1 (.inl (by have := HK.out; omega)), o1.cell hHeld.2.2.1 (.inl (by have := HK.out; omega)), o1.cell hHeld.2.2.2 (.inl (by have := HK.out; omega))⟩
                              clear o1
                              clear hK KK
                              (try clear hHeld)
                              have hHeld := hHeld2
                              clear hHeld2
                              (try simp only [Act.put, List.getElem_toArray, List.getElem_cons_zero, List.getElem_cons_succ, List.setIfInBounds_toArray, List.set_cons_zero, List.set_cons_succ])
                              refine wpAnyH_done (by kernel_rfl) ?_ _
                              clear hHeld
                              have hFf := flt_facts fF
                              obtain ⟨p0, p1, p2, p3⟩ := hFf
                              have z2 := tD.2.2.1
                              have z3 := tO.2.2.1
                              have FINW := hid_mk fWs
                              clear tD tO fWs fF p1 p2 p3 O1 fv fvx fD fO nF
                              by_cases b1 : 1 ≤ bb
                              · by_cases b2 : bb < bz
                                · have g1 : decide (1 ≤ bb) = true := decide_eq_true b1
                                  have g2 : decide (bb < bz) = true := decide_eq_true b2
                                  rw [g1, g2] at her
                                  have ee : (er == 0) = true := her
                                  go_wp2
                                  go_roundw
                                  case rel =>
                                    refine ⟨i + 1, by go_num, by omega, by omega, ?_⟩
                                    rw [HPl.out]
                                    have hlp : ¬ l1.length = 0 := by rw [HQ.out.1]; omega
                                    unfold opP
                                    simp only [if_neg hlp, show ¬ ((3 : Int) = 1) from by omega, if_false, if_true]
                                    rw [HQ.out.1, HQ.out.2.1, HQ.out.2.2.1]
                                    exact FINW.out
                                  case measure => simp [intOf]; omega
                                · have g1 : decide (1 ≤ bb) = true := decide_eq_true b1
                                  have g2 : decide (bb < bz) = false := decide_eq_false b2
                                  rw [g1, g2] at her
                                  have ee : (er == 0) = false := her
                                  go_wp2
                                  go_roundw
                                  case rel =>
                                    refine ⟨i + 1, by go_num, by omega, by omega, ?_⟩
                                    rw [HPl.out]
                                    have hlp : ¬ l1.length = 0 := by rw [HQ.out.1]; omega
                                    unfold opP
                                    simp only [if_neg hlp, show ¬ ((3 : Int) = 1) from by omega, if_false, if_true]
                                    rw [HQ.out.1, HQ.out.2.1, HQ.out.2.2.1]
                                    exact FINW.out
                                  case measure => simp [intOf]; omega
                              · have g1 : decide (1 ≤ bb) = false := decide_eq_false b1
                                obtain ⟨u2, g2⟩ : ∃ u2, decide (bb < bz) = u2 := ⟨_, rfl⟩
                                rw [g1, g2] at her
                                have ee : (er == 0) = false := her
                                go_wp2
                                go_roundw
                                case rel =>
                                  refine ⟨i + 1, by go_num, by omega, by omega, ?_⟩
                                  rw [HPl.out]
                                  have hlp : ¬ l1.length = 0 := by rw [HQ.out.1]; omega
                                  unfold opP
                                  simp only [if_neg hlp, show ¬ ((3 : Int) = 1) from by omega, if_false, if_true]
                                  rw [HQ.out.1, HQ.out.2.1, HQ.out.2.2.1]
                                  exact FINW.out
                                case measure => simp [intOf]; omega
                            · exact AllReadyH.nil
                          · exact AllReadyH.nil
                        · exact AllReadyH.nil
                    · exact AllReadyH.nil
                  · exact AllReadyH.nil
                · exact AllReadyH.nil
            · have hnil : l1 = [] := List.eq_nil_of_length_eq_zero (by omega)
              subst hnil
              obtain ⟨vo, vc, rfl⟩ := own_form h7
              have d2 : (wr.alloc (.cells #[.int .i64 x, .int .i64 3, .int .i64 a, .int .i64 bb, .int .i64 c, .slice lp L.length lc] 69)).cell? ⟨b, 2, none⟩ = some (.slice vo 0 vc) := h6.cells.2.2.1
              clear h1 h2 h3 h4 h5 h6 h7 hlen hl1
              go_wp2
              go_roundw
              case rel =>
                refine ⟨i + 1, by go_num, by omega, by omega, ?_⟩
                rw [HPl.out]
                exact HW.out.quiet HOA.out
              case measure => simp [intOf]; omega
          · have e1 : (k == 1) = false := by rw [beq_eq_false_iff_ne]; exact k1
            have e3 : (k == 3) = false := by rw [beq_eq_false_iff_ne]; exact k3
            have e7 : (k == 7) = false := by rw [beq_eq_false_iff_ne]; exact k7
            go_wp2
            go_roundw
            case rel =>
              refine ⟨i + 1, by go_num, by omega, by omega, ?_⟩
              rw [HPl.out]
              unfold opP
              simp only [k1, k3, k7, if_false]
              exact HW.out.quiet HOA.out
            case measure => simp [intOf]; omega
    · have hmn : min os.length 120 = i := by omega
      have HMn := hid_mk (And.intro hmn hw)
      clear hw
      by_cases hi2 : i < os.length
      · have j1 : (i : Int) < (os.length : Int) := by omega
        have j2 : ¬ (i : Int) < 120 := by omega
        have j3 : decide ((i : Int) < 120) = false := decide_eq_false j2
        clear hmn
        go_wp2
        go_ret
        rw [HMn.out.1]
        exact ⟨rfl, HMn.out.2⟩
      · have j1 : ¬ (i : Int) < (os.length : Int) := by omega
        have j3 : decide ((i : Int) < (os.length : Int)) = false := decide_eq_false j1
        clear hmn
        go_wp2
        go_ret
        rw [HMn.out.1]
        exact ⟨rfl, HMn.out.2⟩
end Go.Proofs.YtjbbkeoolodeaabDoor
namespace Go.Proofs.YtjbbkeoolodeaabDoor
open Go.RowKit
set_option linter.unusedVariables false
set_option linter.unusedSimpArgs false

/-- what small tells -/
def SmR (os : List OpQ) (e : Ending) : Prop := ∃ r : Bool, e = .returned (.bool r) ∧ (r = true → ∀ (j : Nat) (o : OpQ), os[j]? = some o → j < 120 → o.L.length ≤ 400)
set_option maxRecDepth 100000 in
set_option maxHeartbeats 4000000 in
theorem small_any {w : World} {b : Nat} {os : List OpQ} {p : Option Addr} {cp : Nat} (hS : ScrAt w b p os) :
    Calls Tryd.prog 9 #[.slice p os.length cp] w fun e w' => w' = w ∧ SmR os e := by
  have HSc := hid_mk hS
  have ll0 : (0 : Int) ≤ (os.length : Int) := by omega
  clear hS
  go_enter Tryd.func9, Tryd.ntmps9
  go_wp2_with fail
  go_loopw [3, 4] (fun nv u wr => ∃ (i n : Nat), u = .int .i64 (i : Int) ∧ nv = .int .i64 (n : Int) ∧ i ≤ os.length ∧ i ≤ 120 ∧ n ≤ 400 * i ∧ wr = w ∧ ∀ (j : Nat) (o : OpQ), os[j]? = some o → j < i → o.L.length ≤ 400) (fun _ u _ => 120 - (intOf u).toNat)
  case atStart => exact ⟨0, 0, rfl, rfl, Nat.zero_le _, by omega, by omega, rfl, fun j o _ h => by omega⟩
  case round =>
    obtain ⟨i, n, rfl, rfl, i1, i2, i3, rfl, hl⟩ := hrel
    have i0 : (0 : Int) ≤ (i : Int) := by omega
    have n0 : (0 : Int) ≤ (n : Int) := by omega
    have i4 : (i : Int) ≤ 120 := by omega
    have n4 : (n : Int) ≤ 48000 := by omega
    have HL := hid_mk hl
    clear hl
    by_cases hi : i < os.length ∧ i < 120
    · have j1 : (i : Int) < (os.length : Int) := by omega
      have j2 : (i : Int) < 120 := by omega
      by_cases hn : n ≤ 8000
      · have j3 : (n : Int) ≤ 8000 := by omega
        obtain ⟨o, ho⟩ : ∃ o, os[i]? = some o := ⟨_, List.getElem?_eq_getElem hi.1⟩
        rcases HSc.out.2 with e | ⟨g, off, hp, hgb, hcell⟩
        · rw [e] at hi; simp at hi
        subst hp
        obtain ⟨x, lp, lc, c0, c1, c2, c3, c4, c5, c6⟩ := hcell i o ho
        obtain ⟨m, hm⟩ : ∃ m, o.L.length = m := ⟨_, rfl⟩
        rw [hm] at c5
        have m0 : (0 : Int) ≤ (m : Int) := by omega
        have HO := hid_mk (And.intro ho hm)
        clear hcell c0 c1 c2 c3 c4 c6 ho hm
        by_cases hm4 : m ≤ 400
        · have m4 : ¬ (400 : Int) < (m : Int) := by omega
          have m5 : decide ((400 : Int) < (m : Int)) = false := decide_eq_false m4
          have m6 : (m : Int) ≤ 400 := by omega
          go_wp2
          go_roundw
          case rel =>
            refine ⟨i + 1, n + m, by go_num, by go_num, by omega, by omega, by omega, trivial, fun j o hj hji => ?_⟩
            by_cases e : j = i
            · rw [e, HO.out.1] at hj
              cases hj
              rw [HO.out.2]; exact hm4
            · exact HL.out j o hj (by omega)
          case measure => simp [intOf]; omega
        · have m4 : (400 : Int) < (m : Int) := by omega
          go_wp2
          go_ret
          exact ⟨rfl, false, rfl, fun h => by cases h⟩
      · have j3 : ¬ (n : Int) ≤ 8000 := by omega
        have j4 : decide ((n : Int) ≤ 8000) = false := decide_eq_false j3
        go_wp2
        go_ret
        exact ⟨rfl, false, rfl, fun h => by cases h⟩
    · have hall : ∀ (j : Nat) (o : OpQ), os[j]? = some o → j < 120 → o.L.length ≤ 400 := fun j o hj h12 => HL.out j o hj (by have := (List.getElem?_eq_some_iff.1 hj).1; omega)
      have HAll := hid_mk hall
      clear hall
      obtain ⟨r, hr⟩ : ∃ r, decide ((n : Int) ≤ 8000) = r := ⟨_, rfl⟩
      by_cases hi2 : i < os.length
      · have j1 : (i : Int) < (os.length : Int) := by omega
        have j2 : ¬ (i : Int) < 120 := by omega
        have j3 : decide ((i : Int) < 120) = false := decide_eq_false j2
        cases r
        · go_wp2
          go_ret
          exact ⟨rfl, _, rfl, fun _ => HAll.out⟩
        · go_wp2
          go_ret
          exact ⟨rfl, _, rfl, fun _ => HAll.out⟩
      · have j1 : ¬ (i : Int) < (os.length : Int) := by omega
        have j3 : decide ((i : Int) < (os.length : Int)) = false := decide_eq_false j1
        cases r
        · go_wp2
          go_ret
          exact ⟨rfl, _, rfl, fun _ => HAll.out⟩
        · go_wp2
          go_ret
          exact ⟨rfl, _, rfl, fun _ => HAll.out⟩
end Go.Proofs.YtjbbkeoolodeaabDoor
