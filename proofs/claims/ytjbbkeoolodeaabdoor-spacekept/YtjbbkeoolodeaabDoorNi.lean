import Derived.Test.YtjbbkeoolodeaabDoorNe
namespace Go.Proofs.YtjbbkeoolodeaabDoor
open Go.RowKit
set_option linter.unusedVariables false
set_option linter.unusedSimpArgs false

def rmL (l : List (Nat × Blk)) (i : Nat) : Nat := roomN (atB l i).2.2.1
/-- the first m objects' rooms -/
def owTo (l : List (Nat × Blk)) : Nat → Nat → Int
  | 0, _ => -1
  | m + 1, j => if (atB l m).1 ≤ j ∧ j < (atB l m).1 + rmL l m then (m : Int) else owTo l m j
/-- and of the next one so many words -/
def owIn (l : List (Nat × Blk)) (i k j : Nat) : Int := if (atB l i).1 ≤ j ∧ j < (atB l i).1 + k then (i : Int) else owTo l i j
theorem ow_none {l : List (Nat × Blk)} {j : Nat} : ∀ m, (∀ i, i < m → ¬((atB l i).1 ≤ j ∧ j < (atB l i).1 + rmL l i)) → owTo l m j = -1
  | 0, _ => rfl
  | m + 1, h => by
    unfold owTo
    rw [if_neg (h m (by omega))]
    exact ow_none m fun i hi => h i (by omega)
theorem ow_zero (l : List (Nat × Blk)) (i j : Nat) : owIn l i 0 j = owTo l i j := by unfold owIn; rw [if_neg (by omega)]
theorem ow_end (l : List (Nat × Blk)) (i j : Nat) : owIn l i (rmL l i) j = owTo l (i + 1) j := rfl
theorem ow_step (l : List (Nat × Blk)) (i k j : Nat) : (if j = (atB l i).1 + k then (i : Int) else owIn l i k j) = owIn l i (k + 1) j := by
  unfold owIn
  by_cases e : j = (atB l i).1 + k
  · rw [if_pos e, if_pos (by omega)]
  · rw [if_neg e]
    by_cases e2 : (atB l i).1 ≤ j ∧ j < (atB l i).1 + k
    · rw [if_pos e2, if_pos (by omega)]
    · rw [if_neg e2, if_neg (by omega)]
theorem cls_room {z : Int} (z1 : 1 ≤ z) (z2 : z ≤ 1024) : ∃ c bl, clsT z = (c, (roomN z : Int), bl) := by
  by_cases h : z ≤ 32
  · exact ⟨_, _, by unfold clsT; rw [if_pos h, room_small h]⟩
  · have hk := run_k (s := z) (by omega) z2
    have hq2 : (roomN z : Int) = (z + 63) / 64 * 64 := by rw [room_great (by omega)]; push_cast; rw [hk.2.2]
    exact ⟨8, 0, by unfold clsT; rw [if_neg h, hq2]⟩
section
variable {n : Nat} {st : Sp} {l : List (Nat × Blk)}
theorem obl_at (h : ObL st l) {i : Nat} (hi : i < l.length) : st.O (atB l i).1 = (atB l i).2 ∧ hasB (st.O (atB l i).1) = true := by
  obtain ⟨e1, e2⟩ := h.2.1 _ (atB_mem hi).1
  exact ⟨e1, by rw [e1]; exact e2⟩
theorem rm_facts (hI : Inv n st) (h : ObL st l) {i : Nat} (hi : i < l.length) : 1 ≤ (atB l i).2.2.1 ∧ (atB l i).2.2.1 ≤ 1024 ∧ (atB l i).1 + rmL l i ≤ 64 * n ∧ (atB l i).2.2.1 ≤ (rmL l i : Int) := by
  obtain ⟨e1, e2⟩ := obl_at h hi
  have hs := size_room hI e2
  have hz := fits_size (hI.objs _ e2).2.1
  rw [e1] at hs hz
  exact ⟨hz.2.2.1, hz.2.2.2, hs.2, hs.1⟩
theorem rm_apart (hI : Inv n st) (h : ObL st l) {i j : Nat} (hi : i < l.length) (hj : j < l.length) (hne : i ≠ j) : (atB l i).1 + rmL l i ≤ (atB l j).1 ∨ (atB l j).1 + rmL l j ≤ (atB l i).1 := by
  obtain ⟨e1, e2⟩ := obl_at h hi
  obtain ⟨f1, f2⟩ := obl_at h hj
  have hn : (atB l i).1 ≠ (atB l j).1 := fun e => hne (atB_inj h.1 hi hj e)
  have a := obj_out hI e2 f2 (Ne.symm hn)
  have b := obj_out hI f2 e2 hn
  rw [e1] at a
  rw [f1] at b
  unfold rmL
  omega
/-- a word that is looked at is no one's yet -/
theorem ow_free (hI : Inv n st) (h : ObL st l) {i k : Nat} (hi : i < l.length) (hk : k < rmL l i) : owIn l i k ((atB l i).1 + k) = -1 := by
  unfold owIn
  rw [if_neg (by omega)]
  refine ow_none i fun i' hi' => ?_
  have := rm_apart hI h (i := i') (j := i) (by omega) hi (by omega)
  omega
end
theorem ow_row {w : World} {G m : Nat} {l : List (Nat × Blk)} {i k a : Nat} (h : Row w G 3 m (fun j => .int .i64 (owIn l i k j))) (ha : a = (atB l i).1 + k) : Row (w.setCell ⟨G, a, none⟩ (.int .i64 (i : Int))) G 3 m (fun j => .int .i64 (owIn l i (k + 1) j)) := by
  refine (h.set a (.int .i64 (i : Int))).congr fun j _ => ?_
  show (if j = a then _ else _) = _
  rw [← ow_step l i k j, ha]
  by_cases e : j = (atB l i).1 + k
  · rw [if_pos e, if_pos e]
  · rw [if_neg e, if_neg e]
theorem own_at5' {w : World} {base : Nat} {v : Value} {l : List (Nat × Blk)} (h : BListIs w base v l) : ∃ po pc, v = .slice po l.length pc ∧ ∀ j, j < l.length → ∃ g, po = some ⟨g, 0, none⟩ ∧ base ≤ g ∧ g < w.heap.size ∧ w.cell? ⟨g, j * 5, none⟩ = some (.int .i64 ((atB l j).1 : Int)) ∧ w.cell? ⟨g, j * 5 + 1, none⟩ = some (.int .i64 (atB l j).2.1) ∧ w.cell? ⟨g, j * 5 + 2, none⟩ = some (.int .i64 (atB l j).2.2.1) ∧ w.cell? ⟨g, j * 5 + 3, none⟩ = some (.int .i64 (atB l j).2.2.2.1) ∧ w.cell? ⟨g, j * 5 + 4, none⟩ = some (.int .i64 (atB l j).2.2.2.2) := by
  by_cases h0 : 0 < l.length
  · obtain ⟨g, c, e, g1, g2, g3⟩ := own_at5 h h0
    exact ⟨_, _, e, fun j hj => ⟨g, rfl, g1, g2, g3 j hj⟩⟩
  · obtain ⟨o, c, e⟩ := own_form h
    exact ⟨o, c, e, fun j hj => absurd hj (by omega)⟩
theorem made_i {i k : Nat} (h : i < k) : (madeCells #[Value.int .i64 0] k)[i]? = some (.int .i64 0) := by
  simp [madeCells, h, Nat.mod_one]
/-- the first m words are -1 -/
def ngTo (m j : Nat) : Int := if j < m then -1 else 0
theorem ng_row {w : World} {G M m : Nat} (h : Row w G 3 M (fun j => .int .i64 (ngTo m j))) : Row (w.setCell ⟨G, m, none⟩ (.int .i64 (-1))) G 3 M (fun j => .int .i64 (ngTo (m + 1) j)) := by
  refine (h.set m (.int .i64 (-1))).congr fun j _ => ?_
  show (if j = m then _ else _) = _
  unfold ngTo
  by_cases e : j = m
  · rw [if_pos e, if_pos (by omega)]
  · rw [if_neg e]
    by_cases e2 : j < m
    · rw [if_pos e2, if_pos (by omega)]
    · rw [if_neg e2, if_neg (by omega)]
set_option maxRecDepth 100000 in
set_option maxHeartbeats 8000000 in
theorem owner_any {w0 w : World} {b N lo hi cap : Nat} {s : Nat → Nat} {st : Sp} {l : List (Nat × Blk)} (h : WSt w0 b N lo hi cap s w st l) (hN : N ≤ 12) :
    Calls Tryd.prog 11 #[.pointer (some ⟨b, 0, none⟩)] w fun e w' => e = .returned (.slice (some ⟨w.heap.size, 0, none⟩) (64 * N) (64 * N)) ∧ Row w' w.heap.size 3 (64 * N) (fun j => .int .i64 (owTo l l.length j)) ∧ Out 0 0 w w' := by
  obtain ⟨h1, h2, h3, h4, h5, v, h6, h7⟩ := h
  have hlen := obl_len h3.2 h5
  have hN1 := h3.2.n1
  obtain ⟨po, pc, rfl, hcel⟩ := own_at5' h7
  obtain ⟨m, hm⟩ : ∃ m, l.length = m := ⟨_, rfl⟩
  have HF := hid_mk (fun i (hi : i < l.length) => rm_facts h3.2 h5 hi)
  have HE := hid_mk (fun i k (hi : i < l.length) (hk : k < rmL l i) => ow_free h3.2 h5 hi hk)
  rw [hm] at h6 hlen hcel HF HE
  obtain ⟨M, hM⟩ : ∃ M, 64 * N = M := ⟨_, rfl⟩
  have hmk := run_make_row' (P := Tryd.prog) 27 3 (.int .i64 0) 8 Tryd.underlying27 (by kernel_rfl) rfl .i64 .i64 M (by omega) (by omega)
  have c0 := h6.cells.1
  have HB := hid_mk (And.intro h1 h2.size)
  have HG := hid_mk hcel
  have HW := hid_mk h6
  have HTb := hid_mk h3.1.tab
  have m0 : (0 : Int) ≤ (m : Int) := by omega
  have m1 : (m : Int) ≤ 768 := by omega
  have n0 : (1 : Int) ≤ (N : Int) := by omega
  have n1 : (N : Int) ≤ 12 := by omega
  have hMi : (64 : Int) * (N : Int) = (M : Int) := by omega
  have M0 : (64 : Int) ≤ (M : Int) := by omega
  have M1 : (M : Int) ≤ 768 := by omega
  rw [hM] at HF ⊢
  rw [hm]
  clear h1 h2 h3 h4 h5 h6 h7 hlen hcel
  go_enter Tryd.func11, Tryd.ntmps11
  go_wp2_with fail
  obtain ⟨W1, hW1⟩ : ∃ W, w.alloc (.cells (madeCells #[.int .i64 0] M) 3) = W := ⟨_, rfl⟩
  obtain ⟨G, hG⟩ : ∃ G, w.heap.size = G := ⟨_, rfl⟩
  have HO1 : Hid (Out 0 0 w W1) := by rw [← hW1]; exact (Out.refl 0 0 w).alloc _
  have HR1 : Hid (Row W1 G 3 M (fun j => .int .i64 (ngTo 0 j))) := by
    rw [← hW1, ← hG]
    refine ⟨_, heap_alloc_new _ _, by simp [madeCells], fun j hj => ?_⟩
    show _ = some (Value.int .i64 (ngTo 0 j))
    rw [show ngTo 0 j = 0 from by unfold ngTo; rw [if_neg (by omega)]]; exact made_i hj
  rw [hW1]
  (try rw [hG])
  have HGw := hid_mk hG
  clear hW1 c0 hmk hG
  go_loopw [4] (fun u wr => ∃ i : Nat, u = .int .i64 (i : Int) ∧ i ≤ M ∧ Row wr G 3 M (fun j => .int .i64 (ngTo i j)) ∧ Out 0 0 w wr) (fun u _ => M - (intOf u).toNat)
  case atStart => exact ⟨0, rfl, Nat.zero_le _, HR1.out, HO1.out⟩
  case round =>
    clear HR1 HO1
    obtain ⟨i, rfl, i1, r1, r2⟩ := hrel
    have j0 : (0 : Int) ≤ (i : Int) := by omega
    by_cases hi : i < M
    · have j1 : (i : Int) < (M : Int) := by omega
      have d0 := r1.cell hi
      have d1 := r1.frozen i
      have HR := hid_mk (And.intro r1 r2)
      clear r1 r2
      go_wp2_with fail
      refine ⟨⟨i + 1, by congr 1, by omega, ng_row HR.out.1, out_far HR.out.2 ((Out.refl G (G + 1) wr).setCell (.inl ⟨Nat.le_refl _, Nat.lt_succ_self _⟩) _) (.inl (by have := HGw.out; omega))⟩, by simp [intOf]; omega⟩
    · have e : i = M := by omega
      subst e
      have r1' : Row wr G 3 i (fun j => .int .i64 (owTo l 0 j)) := r1.congr fun j hj => by
        show Value.int .i64 (ngTo i j) = .int .i64 (-1)
        unfold ngTo; rw [if_pos hj]
      have HR := hid_mk (And.intro r1' r2)
      clear r1 r2 r1'
      go_wp2_with fail
      go_loopw [5] (fun u wq => ∃ k : Nat, u = .int .i64 (k : Int) ∧ k ≤ m ∧ Row wq G 3 i (fun j => .int .i64 (owTo l k j)) ∧ Out 0 0 w wq) (fun u _ => m - (intOf u).toNat)
      case atStart => exact ⟨0, rfl, Nat.zero_le _, HR.out.1, HR.out.2⟩
      case round =>
        clear HR
        obtain ⟨k, rfl, k1, r1, r2⟩ := hrel
        have k0 : (0 : Int) ≤ (k : Int) := by omega
        have c2 := (HW.out.kept r2 (.inr (Nat.zero_le _))).cells.2.2.1
        by_cases hk : k < m
        · have k2 : (k : Int) < (m : Int) := by omega
          obtain ⟨g, rfl, g1, g2, g3, g4, g5, g6, g7⟩ := HG.out k hk
          obtain ⟨f1, f2, f3, f4⟩ := HF.out k hk
          obtain ⟨z, hz⟩ : ∃ z : Int, (atB l k).2.2.1 = z := ⟨_, rfl⟩
          have d2 := r2.cell g5 (.inr (Nat.zero_le _))
          rw [hz] at d2 f1 f2
          obtain ⟨c, bl, hcl⟩ := cls_room f1 f2
          obtain ⟨q, hq⟩ : ∃ q, rmL l k = q := ⟨_, rfl⟩
          have hq' : roomN z = q := by rw [← hq, ← hz]; rfl
          rw [hq'] at hcl
          rw [hq] at f3
          have HC := hid_mk (classOf_any (HTb.out.quiet r2) z f1 f2 hcl)
          have HQ := hid_mk (And.intro hq (And.intro f3 (And.intro g2 (r2.cell g3 (.inr (Nat.zero_le _))))))
          have HR := hid_mk (And.intro r1 r2)
          have q0 : (0 : Int) ≤ (q : Int) := by omega
          have q1 : (q : Int) ≤ 768 := by omega
          clear r1 r2 f1 f2 f3 f4 g1 g2 g3 g4 g5 g6 g7 hz hq hq' hcl
          go_wp2_with (go_at_call 13; refine HC.out.mono ?_; rintro e w3 ⟨rfl, ho3⟩; have HO3 := hid_mk ho3; clear ho3)
          clear c2 d2
          have hr3 : Row w3 G 3 i (fun j => .int .i64 (owIn l k 0 j)) := (HR.out.1.kept HO3.out (.inr (Nat.zero_le _))).congr fun j _ => by rw [ow_zero]
          have HR3 := hid_mk (And.intro hr3 (HR.out.2.trans HO3.out))
          clear hr3
          obtain ⟨a, ha⟩ : ∃ a, (atB l k).1 = a := ⟨_, rfl⟩
          have HA := hid_mk ha
          rw [ha] at HQ
          clear ha
          go_loopw [9] (fun u wq' => ∃ p : Nat, u = .int .i64 (p : Int) ∧ p ≤ q ∧ Row wq' G 3 i (fun j => .int .i64 (owIn l k p j)) ∧ Out 0 0 w wq') (fun u _ => q - (intOf u).toNat)
          case atStart => exact ⟨0, rfl, Nat.zero_le _, HR3.out.1, HR3.out.2⟩
          case round =>
            clear HR3
            obtain ⟨p, rfl, p1, r1, r2⟩ := hrel
            have p0 : (0 : Int) ≤ (p : Int) := by omega
            by_cases hp : p < q
            · have p2 : (p : Int) < (q : Int) := by omega
              have hq := HQ.out
              have c2 := (HW.out.kept r2 (.inr (Nat.zero_le _))).cells.2.2.1
              have hfree := HE.out k p hk (by rw [hq.1]; exact hp)
              rw [HA.out] at hfree
              obtain ⟨x, hx⟩ : ∃ x, a + p = x := ⟨_, rfl⟩
              have x0 : (a : Int) + (p : Int) = (x : Int) := by omega
              have x1 : x < i := by omega
              have x2 : (0 : Int) ≤ (x : Int) := by omega
              have x3 : (x : Int) < (i : Int) := by omega
              have a0 : (0 : Int) ≤ (a : Int) := by omega
              have d0 := r1.cell x1
              rw [hx] at hfree
              rw [hfree] at d0
              have d1 := r1.frozen x
              have d2 : wr.cell? ⟨g, k * 5, none⟩ = some (.int .i64 (a : Int)) := by
                obtain ⟨g', e, _, _, g3, _⟩ := HG.out k hk
                cases e
                rw [HA.out] at g3
                exact r2.cell g3 (.inr (Nat.zero_le _))
              have HR := hid_mk (And.intro r1 (And.intro r2 hx))
              clear r1 r2 hfree hx hq
              go_wp2_with fail
              exact ⟨⟨p + 1, by congr 1, by omega, ow_row HR.out.1 (by rw [HA.out, HR.out.2.2]), out_far HR.out.2.1 ((Out.refl G (G + 1) wr).setCell (.inl ⟨Nat.le_refl _, Nat.lt_succ_self _⟩) _) (.inl (by have := HGw.out; omega))⟩, by simp [intOf]; omega⟩
            · have e : p = q := by omega
              subst e
              have HR := hid_mk (And.intro r1 r2)
              clear r1 r2
              go_wp2_with fail
              refine ⟨⟨k + 1, by congr 1, by omega, HR.out.1.congr fun j _ => ?_, HR.out.2⟩, by simp [intOf]; omega⟩
              show Value.int .i64 (owIn l k p j) = .int .i64 (owTo l (k + 1) j)
              rw [← ow_end l k j, HQ.out.1]
        · have e : k = m := by omega
          subst e
          have HR := hid_mk (And.intro r1 r2)
          clear r1 r2
          go_wp2
          go_ret
          exact ⟨by rw [HGw.out]; rfl, by rw [HGw.out]; exact HR.out.1, HR.out.2⟩
end Go.Proofs.YtjbbkeoolodeaabDoor
