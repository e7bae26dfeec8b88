import Derived.Test.YtjbbkeoolodeaabDoorNc
import Derived.Test.YtjbbkeoolodeaabDoorMo
import Derived.Test.YtjbbkeoolodeaabDoorMf
namespace Go.Proofs.YtjbbkeoolodeaabDoor
open Go.RowKit
set_option linter.unusedVariables false
set_option linter.unusedSimpArgs false

theorem own_at5 {w : World} {base : Nat} {v : Value} {l : List (Nat × Blk)} (h : BListIs w base v l) (h0 : 0 < l.length) : ∃ g c, v = .slice (some ⟨g, 0, none⟩) l.length c ∧ base ≤ g ∧ g < w.heap.size ∧ ∀ j, j < l.length → w.cell? ⟨g, j * 5, none⟩ = some (.int .i64 ((atB l j).1 : Int)) ∧ w.cell? ⟨g, j * 5 + 1, none⟩ = some (.int .i64 (atB l j).2.1) ∧ w.cell? ⟨g, j * 5 + 2, none⟩ = some (.int .i64 (atB l j).2.2.1) ∧ w.cell? ⟨g, j * 5 + 3, none⟩ = some (.int .i64 (atB l j).2.2.2.1) ∧ w.cell? ⟨g, j * 5 + 4, none⟩ = some (.int .i64 (atB l j).2.2.2.2) := by
  obtain ⟨h1, h2⟩ := h
  rcases h2 with ⟨_, h2⟩ | ⟨g, cap, cur, rfl, h3, h4, h5, h6, h7, h8⟩
  · omega
  refine ⟨g, cap, rfl, h3, heap_lt h4, fun j hj => ?_⟩
  have key : ∀ (l : List (Nat × Blk)) j, j < l.length → (bks l)[j * 5]? = some (.int .i64 ((atB l j).1 : Int)) ∧ (bks l)[j * 5 + 1]? = some (.int .i64 (atB l j).2.1) ∧ (bks l)[j * 5 + 2]? = some (.int .i64 (atB l j).2.2.1) ∧ (bks l)[j * 5 + 3]? = some (.int .i64 (atB l j).2.2.2.1) ∧ (bks l)[j * 5 + 4]? = some (.int .i64 (atB l j).2.2.2.2) := by
    intro l
    induction l with
    | nil => intro j hj; simp at hj
    | cons q l ih =>
      intro j hj
      rw [bks_cons]
      cases j with
      | zero => exact ⟨rfl, rfl, rfl, rfl, rfl⟩
      | succ j =>
        have := ih j (by simpa using hj)
        have e : atB (q :: l) (j + 1) = atB l j := by unfold atB; simp
        rw [e, show (j + 1) * 5 = j * 5 + 5 from by omega]
        simpa using this
  obtain ⟨k0, k1, k2, k3, k4⟩ := key l j hj
  have get : ∀ i u, i < l.length * 5 → (bks l)[i]? = some u → w.cell? ⟨g, i, none⟩ = some u := by
    intro i u hi hu
    rw [← h8] at hu
    have : cur[i]? = some u := by simpa [List.getElem?_take, hi] using hu
    simp [World.cell?, h4, this]
  exact ⟨get _ _ (by omega) k0, get _ _ (by omega) k1, get _ _ (by omega) k2, get _ _ (by omega) k3, get _ _ (by omega) k4⟩
def ivs (l : List Int) : List Value := l.map fun x => .int .i64 x
theorem ivs_app (a : List Int) (x : Int) : ivs (a ++ [x]) = ivs a ++ [.int .i64 x] := by unfold ivs; simp
theorem ints_of {w : World} {base : Nat} {o : Option Addr} {n c : Nat} {l : List Int} (hn : l.length = n) (h : w.ownsRow base 3 1 (.slice o n c) n (ivs l)) : IntsIs w o l := by
  rcases h.2 with ⟨_, h2⟩ | ⟨g, cap, cur, h2, h3, h4, h5, h6, h7, h8⟩
  · left; exact List.eq_nil_of_length_eq_zero (by omega)
  · right
    have e : o = some ⟨g, 0, none⟩ := by simp at h2; exact h2.1
    refine ⟨g, e, heap_lt h4, fun j hj => ?_⟩
    have hx : (ivs l)[j]? = some (.int .i64 (l[j]?.getD 0)) := by unfold ivs; simp [hj]
    rw [← h8] at hx
    have : cur[j]? = some (.int .i64 (l[j]?.getD 0)) := by
      rw [List.getElem?_take] at hx
      split at hx
      · simpa using hx
      · cases hx
    simp [World.cell?, h4, this]
theorem made_b {i k : Nat} (h : i < k) : (madeCells #[Value.bool false] k)[i]? = some (.bool false) := by
  simp [madeCells, h, Nat.mod_one]
set_option maxRecDepth 100000 in
set_option maxHeartbeats 8000000 in
theorem keeps_someO {w0 w : World} {b N lo hi cap : Nat} {s : Nat → Nat} {st : Sp} {l : List (Nat × Blk)} (h : WSt w0 b N lo hi cap s w st l) (hN : N ≤ 12) (h0 : 0 < l.length) {L : List Int} {p : Option Addr} {cp : Nat} (hL : SlI w b p L) (hLl : L.length ≤ 400) :
    Calls Tryd.prog 21 #[.pointer (some ⟨b, 0, none⟩), .slice p L.length cp] w fun e w' => e = .returned (.bool true) ∧ WSt w0 b N lo hi cap s w' (kpP N st l L).1 (kpP N st l L).2 ∧ Out b hi w w' := by
  have H0 := hid_mk h
  obtain ⟨i1, hi1, hy0, hy1, hy2⟩ := info_parts info_i64
  obtain ⟨i0, hi0, hz0, hz1, hz2⟩ := info_parts info_blk
  obtain ⟨h1, h2, h3, h4, h5, v, h6, h7⟩ := h
  have hlen := obl_len h3.2 h5
  obtain ⟨gb, cb, rfl, hg1, hg2, hg3⟩ := own_at5 h7 h0
  obtain ⟨m, hm⟩ : ∃ m, l.length = m := ⟨_, rfl⟩
  rw [hm] at h6 h7 h0 hlen hg3
  have hmk := run_make_row' (P := Tryd.prog) 29 4 (.bool false) 1 Tryd.underlying29 (by kernel_rfl) rfl .i64 .i64 m (by omega) (by omega)
  have c2 := h6.cells.2.2.1
  have HM := hid_mk hm
  have HB := hid_mk (And.intro h1 (And.intro hg1 hg2))
  have HG := hid_mk hg3
  have HLi := hid_mk hL
  have HLn := hid_mk hlen
  have HW := hid_mk (And.intro h6 h7)
  have m0 : (0 : Int) < (m : Int) := by omega
  have m1 : (m : Int) ≤ 768 := by omega
  have HLl := hid_mk hLl
  clear h1 h2 h3 h4 h5 h6 h7 hlen hm hg1 hg2 hg3 hL hLl
  go_enter Tryd.func21, Tryd.ntmps21
  go_wp2_with fail
  obtain ⟨W1, hW1⟩ : ∃ W, w.alloc (.cells (madeCells #[.bool false] m) 4) = W := ⟨_, rfl⟩
  obtain ⟨G, hG⟩ : ∃ G, w.heap.size = G := ⟨_, rfl⟩
  have HO1 : Hid (Out 0 0 w W1) := by rw [← hW1]; exact (Out.refl 0 0 w).alloc _
  have HR1 : Hid (Row W1 G 4 m (fun j => .bool (stF m L 0 j))) := by
    rw [← hW1, ← hG]
    refine ⟨_, heap_alloc_new _ _, by simp [madeCells], fun j hj => ?_⟩
    show _ = some (Value.bool (stF m L 0 j))
    rw [st_zero]; exact made_b hj
  have HS1 : Hid (W1.heap.size = G + 1) := by rw [← hW1, ← hG]; exact World.size_alloc _ _
  rw [hW1, hG]
  have HGw := hid_mk hG
  clear hW1 hG c2 hmk
  go_loopw [6, 7] (fun pv u wr => ∃ i : Nat, u = .int .i64 (i : Int) ∧ i ≤ L.length ∧ Row wr G 4 m (fun j => .bool (stF m L i j)) ∧ wr.ownsRow (G + 1) 3 1 pv i (ivs ((psF l L).take i)) ∧ Out 0 0 w wr) (fun _ u _ => L.length - (intOf u).toNat)
  case atStart => exact ⟨0, rfl, Nat.zero_le _, HR1.out, ⟨by simp [ivs], .inl ⟨rfl, rfl⟩⟩, HO1.out⟩
  case round =>
    clear HR1 HO1
    obtain ⟨i, rfl, i1', r1, r2, r3⟩ := hrel
    obtain ⟨po, pc, rfl⟩ := own_form r2
    have c2 := (HW.out.1.kept r3 (.inr (Nat.zero_le _))).cells.2.2.1
    have j0 : (0 : Int) ≤ (i : Int) := by omega
    by_cases hi : i < L.length
    · have j1 : (i : Int) < (L.length : Int) := by omega
      obtain ⟨x, hx⟩ : ∃ x, L[i]? = some x := ⟨_, List.getElem?_eq_getElem hi⟩
      rcases HLi.out.2 with e | ⟨g, off, hp, hgb, hcell⟩
      · rw [e] at hi; simp at hi
      subst hp
      have cx := r3.cell (hcell i x hx) (.inr (Nat.zero_le _))
      have hxb := HLi.out.1 x (List.mem_of_getElem? hx)
      obtain ⟨k, hk⟩ : ∃ k, idxF m x = k := ⟨_, rfl⟩
      have hidx := idx_lt (m := m) (by omega) x
      have HWi := hid_mk (fun w' => within_any x (m : Int) w' hxb.1 hxb.2 m0 (by omega))
      rw [hidx.2, hk] at HWi
      rw [hk] at hidx
      have k0 : (0 : Int) ≤ (k : Int) := by omega
      have k1 : (k : Int) < (m : Int) := by omega
      obtain ⟨y, hy⟩ : ∃ y : Int, ((atB l k).1 : Int) = y := ⟨_, rfl⟩
      have hgw := HGw.out
      have hb0 := HB.out
      have d0 := r1.cell hidx.1
      have d1 := r1.frozen k
      have d2 := r3.cell (HG.out k hidx.1).1 (.inr (Nat.zero_le _))
      rw [hy] at d2
      have HR := hid_mk (And.intro r1 (And.intro r2 r3))
      have HX := hid_mk (And.intro hx (And.intro hk (And.intro hy hidx.1)))
      have hne : gb ≠ G := by omega
      have hne2 : b ≠ G := by omega
      clear r1 r2 r3 hxb hidx hcell hx hk hy hgw hb0
      go_wp2_with fail
      refine wp_region_held_drew (S := fun w' => w'.cell? ⟨g, off + i, none⟩ = some (.int .i64 x) ∧ w'.cell? ⟨b, 2, none⟩ = some (.slice (some ⟨gb, 0, none⟩) m cb)) (by kernel_rfl) ?hS1 (fun hHeld => ?rest1)
      case hS1 => exact ⟨cx, c2⟩
      obtain ⟨Z, hZ⟩ : ∃ Z, wr.drew = Z := ⟨_, rfl⟩
      have OZ : Out 0 0 wr Z := by rw [← hZ]; exact (Out.refl 0 0 wr).drew
      rw [hZ] at hHeld ⊢
      clear hZ
      refine wpAnyH_take (i := 0) (v := ?v2) rfl (by kernel_rfl) (by kernel_rfl) (by kernel_rfl) (fun _ _ _ h => h) (Or.inl ⟨by rfl, ?hy2⟩) (by assumption) ?rest2
      case hy2 => (intro w hSw; (try dsimp only at hSw); simp only [List.getElem_toArray, List.getElem_cons_zero, List.getElem_cons_succ]; go_simp; (try with_reducible rfl))
      (try simp only [Act.put, List.getElem_toArray, List.getElem_cons_zero, List.getElem_cons_succ, List.setIfInBounds_toArray, List.set_cons_zero, List.set_cons_succ])
      refine wpAnyH_take (i := 1) (v := ?v3) rfl (by kernel_rfl) (by kernel_rfl) (by kernel_rfl) (fun _ _ _ h => h) (Or.inl ⟨by rfl, ?hy3⟩) (by assumption) ?rest3
      case hy3 => (intro w hSw; (try dsimp only at hSw); simp only [List.getElem_toArray, List.getElem_cons_zero, List.getElem_cons_succ]; go_simp; (try with_reducible rfl))
      (try simp only [Act.put, List.getElem_toArray, List.getElem_cons_zero, List.getElem_cons_succ, List.setIfInBounds_toArray, List.set_cons_zero, List.set_cons_succ])
      refine wpAnyH_take (i := 2) (v := ?v4) rfl (by kernel_rfl) (by kernel_rfl) (by kernel_rfl) (fun _ _ _ h => h) (Or.inl ⟨by rfl, ?hy4⟩) (by assumption) ?rest4
      case hy4 => (intro w hSw; (try dsimp only at hSw); simp only [List.getElem_toArray, List.getElem_cons_zero, List.getElem_cons_succ]; go_simp; (try with_reducible rfl))
      (try simp only [Act.put, List.getElem_toArray, List.getElem_cons_zero, List.getElem_cons_succ, List.setIfInBounds_toArray, List.set_cons_zero, List.set_cons_succ])
      refine wpAnyH_take (i := 3) (v := ?v5) rfl (by kernel_rfl) (by kernel_rfl) (by kernel_rfl) (fun _ _ _ h => h) (Or.inl ⟨by rfl, ?hy5⟩) (by assumption) ?rest5
      case hy5 => (intro w hSw; (try dsimp only at hSw); simp only [List.getElem_toArray, List.getElem_cons_zero, List.getElem_cons_succ]; go_simp; (try with_reducible rfl))
      (try simp only [Act.put, List.getElem_toArray, List.getElem_cons_zero, List.getElem_cons_succ, List.setIfInBounds_toArray, List.set_cons_zero, List.set_cons_succ])
      refine wpAnyH_take (i := 4) (v := ?v6) rfl (by kernel_rfl) (by kernel_rfl) (by kernel_rfl) (fun _ _ _ h => h) (Or.inl ⟨by rfl, ?hy6⟩) (by assumption) ?rest6
      case hy6 => (intro w hSw; (try dsimp only at hSw); simp only [List.getElem_toArray, List.getElem_cons_zero, List.getElem_cons_succ]; go_simp; (try with_reducible rfl))
      (try simp only [Act.put, List.getElem_toArray, List.getElem_cons_zero, List.getElem_cons_succ, List.setIfInBounds_toArray, List.set_cons_zero, List.set_cons_succ])
      refine wpAnyH_take (i := 5) (v := ?v7) rfl (by kernel_rfl) (by kernel_rfl) (by kernel_rfl) (fun _ _ _ h => h) (Or.inl ⟨by rfl, ?hy7⟩) (by assumption) ?rest7
      case hy7 => (intro w hSw; (try dsimp only at hSw); simp only [List.getElem_toArray, List.getElem_cons_zero, List.getElem_cons_succ]; go_simp; (try with_reducible rfl))
      (try simp only [Act.put, List.getElem_toArray, List.getElem_cons_zero, List.getElem_cons_succ, List.setIfInBounds_toArray, List.set_cons_zero, List.set_cons_succ])
      refine wpAnyH_take (i := 6) (v := ?v8) rfl (by kernel_rfl) (by kernel_rfl) (by kernel_rfl) (fun _ _ _ h => h) (Or.inl ⟨by rfl, ?hy8⟩) (by assumption) ?rest8
      case hy8 => (intro w hSw; (try dsimp only at hSw); simp only [List.getElem_toArray, List.getElem_cons_zero, List.getElem_cons_succ]; go_simp; (try with_reducible rfl))
      (try simp only [Act.put, List.getElem_toArray, List.getElem_cons_zero, List.getElem_cons_succ, List.setIfInBounds_toArray, List.set_cons_zero, List.set_cons_succ])
      refine wpAnyH_take (i := 7) (v := ?v9) rfl (by kernel_rfl) (by kernel_rfl) (by kernel_rfl) (fun _ _ _ h => h) (Or.inl ⟨by rfl, ?hy9⟩) (by assumption) ?rest9
      case hy9 => (intro w hSw; (try dsimp only at hSw); simp only [List.getElem_toArray, List.getElem_cons_zero, List.getElem_cons_succ]; go_simp; (try with_reducible rfl))
      (try simp only [Act.put, List.getElem_toArray, List.getElem_cons_zero, List.getElem_cons_succ, List.setIfInBounds_toArray, List.set_cons_zero, List.set_cons_succ])
      refine wpAnyH_take (i := 8) (v := ?v10) rfl (by kernel_rfl) (by kernel_rfl) (by kernel_rfl) (fun _ _ _ h => h) (Or.inl ⟨by rfl, ?hy10⟩) (by assumption) ?rest10
      case hy10 => (intro w hSw; (try dsimp only at hSw); simp only [List.getElem_toArray, List.getElem_cons_zero, List.getElem_cons_succ]; go_simp; (try with_reducible rfl))
      (try simp only [Act.put, List.getElem_toArray, List.getElem_cons_zero, List.getElem_cons_succ, List.setIfInBounds_toArray, List.set_cons_zero, List.set_cons_succ])
      refine wpAnyH_ready (rs := [9]) (by kernel_rfl) (by simp) ?_
      refine AllReadyH.cons rfl (fun KK hK => ?_) AllReadyH.nil
      simp only [List.getElem_toArray, List.getElem_cons_zero, List.getElem_cons_succ]
      go_simp
      refine calls_same (HWi.out _) ?_
      refine hK.out _ _ ?hS11 (fun hHeld2 => ?rest11)
      case hS11 => exact hHeld
      clear hK KK
      (try clear hHeld)
      have hHeld := hHeld2
      clear hHeld2
      (try simp only [Act.put, List.getElem_toArray, List.getElem_cons_zero, List.getElem_cons_succ, List.setIfInBounds_toArray, List.set_cons_zero, List.set_cons_succ])
      refine wpAnyH_take (i := 10) (v := ?v12) rfl (by kernel_rfl) (by kernel_rfl) (by kernel_rfl) (fun _ _ _ h => h) (Or.inl ⟨by rfl, ?hy12⟩) (by assumption) ?rest12
      case hy12 => (intro w hSw; (try dsimp only at hSw); simp only [List.getElem_toArray, List.getElem_cons_zero, List.getElem_cons_succ]; go_simp; (try with_reducible rfl))
      (try simp only [Act.put, List.getElem_toArray, List.getElem_cons_zero, List.getElem_cons_succ, List.setIfInBounds_toArray, List.set_cons_zero, List.set_cons_succ])
      refine wpAnyH_done (by kernel_rfl) ?_ _
      clear hHeld
      have d0' := OZ.cell d0 (.inr (Nat.zero_le _))
      have d2' := OZ.cell d2 (.inr (Nat.zero_le _))
      have c2' := OZ.cell c2 (.inr (Nat.zero_le _))
      have d1' : Z.frozen? ⟨G, k, none⟩ = false := (HR.out.1.kept OZ (.inr (Nat.zero_le _))).frozen k
      clear d0 d1 d2 c2 cx
      obtain ⟨Z2, hZ2⟩ : ∃ W, Z.setCell ⟨G, k, none⟩ (.bool true) = W := ⟨_, rfl⟩
      have o2 : Out G (G + 1) Z Z2 := by rw [← hZ2]; exact (Out.refl _ _ _).setCell (p := ⟨G, k, none⟩) (.inl ⟨Nat.le_refl _, Nat.lt_succ_self _⟩) _
      have hr2 : Row Z2 G 4 m (fun j => .bool (stF m L (i + 1) j)) := by
        rw [← hZ2]
        refine ((HR.out.1.kept OZ (.inr (Nat.zero_le _))).set k _).congr fun j hj => ?_
        rw [st_succ HX.out.1, HX.out.2.1]
        by_cases e : j = k
        · rw [if_pos e, e]; simp
        · have e2 : (k == j) = false := by rw [beq_eq_false_iff_ne]; exact fun h => e h.symm
          rw [if_neg e, e2, Bool.or_false]
      have o3 : Out 0 0 Z2 (Z2.alloc (.cells #[.int .i64 y] 3)) := (Out.refl 0 0 _).alloc _
      have hn3 := heap_alloc_new Z2 (.cells #[.int .i64 y] 3)
      have HOW : Hid ((Z2.alloc (.cells #[.int .i64 y] 3)).ownsRow (G + 1) 3 1 (.slice po i pc) i (ivs ((psF l L).take i))) := ownk (ownk (ownk HR.out.2.1 OZ (Nat.zero_le _)) o2 (Nat.le_refl _)) o3 (Nat.zero_le _)
      have HNE : Hid (∀ j u, ([.int .i64 y] : List Value)[j]? = some u → (Z2.alloc (.cells #[.int .i64 y] 3)).cell? ((⟨Z2.heap.size, 0, none⟩ : Addr).add j) = some u) := by
        intro j u hj
        have hj1 : j = 0 := by have := (List.getElem?_eq_some_iff.1 hj).1; simp at this; omega
        subst hj1
        rw [Addr.add_lit, Nat.zero_add]
        simp at hj
        subst hj
        simp only [World.cell?, hn3]; rfl
      have HO2 := hid_mk (And.intro OZ (And.intro o2 (And.intro o3 hr2)))
      have hsz : Z2.heap.size = Z.heap.size := by rw [← hZ2]; simp [World.setCell]
      have HBs : Hid (G + 1 ≤ (Z2.alloc (.cells #[.int .i64 y] 3)).heap.size) := by
        have h8 := HR.out.2.2.size
        have h9 := OZ.size
        have h10 := hr2.lt
        show G + 1 ≤ _
        rw [World.size_alloc]; omega
      have e2 := o2.cell c2' (.inl (by have := HB.out; have := HGw.out; omega))
      have e3 := o2.cell d2' (.inl (by have := HB.out; have := HGw.out; omega))
      have HI4 : Hid (i ≤ 400) := by have := HLl.out; show i ≤ 400; omega
      have j3 : (i : Int) ≤ 400 := by have := HI4.out; omega
      clear o2 hr2 o3 hn3
      go_wp2_with (at_builtin; (try rw [hZ2]); (try rw [← hsz]); refine wpList_append_own _ rfl _ _ 27 rfl (G + 1) 3 i1 (.int .i64 0) 1 8 Tryd.underlying27 hi1 hy0 hy1 hy2 rfl (by decide) (.slice po i pc) i (ivs ((psF l L).take i)) rfl HOW.out ⟨Z2.heap.size, 0, none⟩ 1 1 [.int .i64 y] rfl rfl HNE.out (by intro u hu; simp at hu; subst hu; rfl) (by unfold maxLen; have := HI4.out; omega) (by have := HI4.out; omega) HBs.out ?_; intro v' w1 hown' hgrow hnil; obtain ⟨g4, cap4, rfl, hg4, _⟩ := hown'.form (by omega); have HP4 := hid_mk hown'; have HO4 := hid_mk (grown_out (base := G + 1) hgrow (fun g h => (own_block HOW.out g h).1)); clear hown' hgrow hnil hg4)
      go_roundw
      case rel =>
        obtain ⟨p1, p2, p3, p4⟩ := HO2.out
        have hgw := HGw.out
        have hP4 := HP4.out
        have el : (psF l L).take (i + 1) = (psF l L).take i ++ [y] := by
          rw [ps_succ (by rw [HM.out]; omega) HX.out.1, HM.out, HX.out.2.1, HX.out.2.2.1]
        refine ⟨i + 1, by go_num, by omega, (p4.kept p3 (.inr (Nat.zero_le _))).kept HO4.out (.inl (Nat.lt_succ_self _)), ?_, ((((HR.out.2.2.trans p1).past p2 (by omega)).trans p3).past HO4.out (by omega))⟩
        rw [el, ivs_app]
        exact hP4
      case measure => simp [intOf]; omega
    · have e : i = L.length := by omega
      subst e
      have HR := hid_mk (And.intro r1 (And.intro r2 r3))
      obtain ⟨T, hT⟩ : ∃ T, stF m L L.length = T := ⟨_, rfl⟩
      have HTe := hid_mk hT
      rw [hT] at r1
      have hc2 := c2
      have HT1 := hid_mk r1
      clear r1 r2 r3 hi hT
      go_wp2_with fail
      obtain ⟨G3, hG3⟩ : ∃ G, wr.heap.size = G := ⟨_, rfl⟩
      have HG3 := hid_mk hG3
      clear hG3
      go_loopw [9, 10] (fun lv u wq => ∃ j : Nat, u = .int .i64 (j : Int) ∧ j ≤ m ∧ BListIs wq G3 lv (lfT l T j) ∧ Out 0 0 wr wq) (fun _ u _ => m - (intOf u).toNat)
      case atStart => exact ⟨0, rfl, Nat.zero_le _, ⟨rfl, .inl ⟨rfl, rfl⟩⟩, Out.refl _ _ _⟩
      case round =>
        obtain ⟨j, rfl, j1, s1, s2⟩ := hrel
        obtain ⟨fo, fc, rfl⟩ := own_form s1
        have hll := lf_len l T j
        obtain ⟨q, hq⟩ : ∃ q, (lfT l T j).length = q := ⟨_, rfl⟩
        replace s1 : wr.ownsRow G3 36 5 (.slice fo q fc) q (bks (lfT l T j)) := by
          have := s1
          unfold BListIs at this
          rw [hq] at this
          exact this
        rw [hq] at hll ⊢
        have e2 := s2.cell hc2 (.inr (Nat.zero_le _))
        have j0' : (0 : Int) ≤ (j : Int) := by omega
        have j3' : (j : Int) ≤ 768 := by omega
        by_cases hj : j < m
        · have j2 : (j : Int) < (m : Int) := by omega
          have e3 := (HT1.out.kept s2 (.inr (Nat.zero_le _))).cell hj
          have o13 := HR.out.2.2.trans s2
          obtain ⟨x0, x1, x2, x3, x4⟩ := HG.out j hj
          have y0 := o13.cell x0 (.inr (Nat.zero_le _))
          have y1 := o13.cell x1 (.inr (Nat.zero_le _))
          have y2 := o13.cell x2 (.inr (Nat.zero_le _))
          have y3 := o13.cell x3 (.inr (Nat.zero_le _))
          have y4 := o13.cell x4 (.inr (Nat.zero_le _))
          obtain ⟨⟨ba, bk, bz, bx, bt⟩, hat⟩ : ∃ q, atB l j = q := ⟨_, rfl⟩
          rw [hat] at y0 y1 y2 y3 y4
          dsimp only at y0 y1 y2 y3 y4
          have HJ := hid_mk (And.intro s1 (And.intro s2 (And.intro hq hat)))
          cases hTj : T j with
          | true =>
            rw [hTj] at e3
            have HL3 : Hid ((wr.alloc (.cells #[.int .i64 (ba : Int), .int .i64 bk, .int .i64 bz, .int .i64 bx, .int .i64 bt] 36)).ownsRow G3 36 5 (.slice fo q fc) q (bks (lfT l T j))) := by
              have := ownk s1 ((Out.refl 0 0 wr).alloc (.cells #[.int .i64 (ba : Int), .int .i64 bk, .int .i64 bz, .int .i64 bx, .int .i64 bt] 36)) (Nat.zero_le _)
              exact this
            have HN3 := hid_mk (blk_cells (w := wr.alloc (.cells #[.int .i64 (ba : Int), .int .i64 bk, .int .i64 bz, .int .i64 bx, .int .i64 bt] 36)) (g := wr.heap.size) (a := (ba : Int)) (k := bk) (z := bz) (x := bx) (t := bt) (heap_alloc_new _ _))
            have HB3 : Hid (G3 ≤ (wr.alloc (.cells #[.int .i64 (ba : Int), .int .i64 bk, .int .i64 bz, .int .i64 bx, .int .i64 bt] 36)).heap.size) := by
              have h8 := s2.size
              have h9 := HG3.out
              show G3 ≤ _
              rw [World.size_alloc]; omega
            have HQ4 : Hid (q ≤ 768) := by show q ≤ 768; omega
            clear s1 s2 hq hat hll x0 x1 x2 x3 x4 o13
            go_wp2_with (at_builtin; refine wpList_append_own _ rfl _ _ 31 rfl G3 36 i0 (.agg #[.int .i64 0, .int .i64 0, .int .i64 0, .int .i64 0, .int .i64 0]) 5 40 Tryd.underlying31 hi0 hz0 hz1 hz2 rfl (by decide) (.slice fo q fc) q (bks (lfT l T j)) rfl HL3.out ⟨wr.heap.size, 0, none⟩ 1 1 [.int .i64 (ba : Int), .int .i64 bk, .int .i64 bz, .int .i64 bx, .int .i64 bt] rfl rfl HN3.out (by intro u hu; simp at hu; rcases hu with rfl | rfl | rfl | rfl | rfl <;> rfl) (by unfold maxLen; have := HQ4.out; omega) (by have := HQ4.out; omega) HB3.out ?_; intro v' w1 hown' hgrow hnil; obtain ⟨g4, cap4, rfl, hg4, _⟩ := hown'.form (by omega); have HP4 := hid_mk hown'; have HO4 := hid_mk (grown_out (base := G3) hgrow (fun g h => (own_block HL3.out g h).1)); clear hown' hgrow hnil hg4)
            go_roundw
            case rel =>
              have h3 := HG3.out
              have o3 : Out 0 0 wr (wr.alloc (.cells #[.int .i64 (ba : Int), .int .i64 bk, .int .i64 bz, .int .i64 bx, .int .i64 bt] 36)) := (Out.refl 0 0 wr).alloc _
              refine ⟨j + 1, by go_num, by omega, ?_, ((HJ.out.2.1.trans o3).past HO4.out (by omega))⟩
              have el : lfT l T (j + 1) = lfT l T j ++ [(ba, bk, bz, bx, bt)] := by
                conv => lhs; unfold lfT
                rw [hTj, if_pos rfl, HJ.out.2.2.2]
              unfold BListIs
              rw [el, bks_append, List.length_append, HJ.out.2.2.1]
              exact HP4.out
            case measure => simp [intOf]; omega
          | false =>
            rw [hTj] at e3
            clear s1 s2 hq hat hll x0 x1 x2 x3 x4 o13
            go_wp2
            go_roundw
            case rel =>
              have el : lfT l T (j + 1) = lfT l T j := by
                conv => lhs; unfold lfT
                rw [hTj]; rfl
              refine ⟨j + 1, by go_num, by omega, ?_, HJ.out.2.1⟩
              unfold BListIs
              rw [el, HJ.out.2.2.1]
              exact HJ.out.1
            case measure => simp [intOf]; omega
        · have e : m = j := by omega
          subst e
          have hpl : (psF l L).length = L.length := ps_len (by rw [HM.out]; omega)
          have hrow := ownk HR.out.2.1 s2 (Nat.zero_le _)
          rw [List.take_of_length_le (by omega)] at hrow
          have hints := ints_of hpl hrow
          have hW0 := H0.out
          have o13 := HR.out.2.2.trans s2
          have hSp := hW0.2.2.1.quiet o13
          have hKp := spKeep_any hSp (l := psF l L) (p := po) (cp := pc) hints (by rw [hpl]; have := HLl.out; omega)
          rw [hpl] at hKp
          have HKp := hid_mk hKp
          have hlf : lfT l T m = l.filter fun q => kpS (psF l L) q.1 := by
            have := lf_all (L := L) hW0.2.2.2.2.1.1
            rw [HM.out, HTe.out] at this
            exact this
          have hfl := freed_list hW0.2.2.1.2 hW0.2.2.2.2.1 (psF l L)
          rw [← hlf, hq, HM.out] at hfl
          have hfz : ((freedTo (rawOf N st) (kpS (psF l L)) (64 * N) : Nat) : Int) = (m : Int) - (q : Int) := by rw [hfl]; omega
          rw [hfz] at HKp
          have e1 := (HW.out.1.kept o13 (.inr (Nat.zero_le _))).cells.2.1
          have hWk := HW.out.1.kept o13 (.inr (Nat.zero_le _))
          have HF := hid_mk (And.intro s1 (And.intro o13 (And.intro hWk hlf)))
          have q0 : (0 : Int) ≤ (q : Int) := by omega
          have q1 : (q : Int) ≤ (m : Int) := by omega
          have HTold := hid_mk (ps_told (L := L) hW0.2.2.2.2.1)
          clear hpl hrow hints hW0 hSp hKp hfl hfz hWk hlf s1 s2 o13
          go_wp2_with fail
          refine HKp.out.mono ?_
          rintro e5 w5 ⟨o5, ⟨_, rfl, hs5⟩ | ⟨⟨a, ha1, ha2⟩, _⟩⟩
          · have hb0 := HB.out
            have hW5 := HF.out.2.2.1.kept o5 (.inl hb0.1.1)
            have f2 := hW5.cells.2.2.1
            have f3 := hW5.cells.2.2.2.2 2
            have H5 := hid_mk (And.intro o5 (And.intro hs5 hW5))
            have hnn : (((m : Int) - (q : Int)) != (m : Int) - (q : Int)) = false := by simp
            clear o5 hs5 hW5 e1 e2 HKp
            go_wp2
            go_ret
            have o6 : Out b (b + 1) w5 (w5.setCell ⟨b, 2, none⟩ (.slice fo q fc)) := (Out.refl _ _ _).setCell (p := ⟨b, 2, none⟩) (.inl ⟨Nat.le_refl _, Nat.lt_succ_self _⟩) _
            have h0' := H0.out
            have z1 := h0'.2.1.size
            have z2 := HR.out.2.2.size
            have z3 := HG3.out
            refine ⟨rfl, ⟨hb0.1, ((h0'.2.1.trans (HF.out.2.1.any _ _)).trans (H5.out.1.wide (by omega) (Nat.le_refl _))).trans (o6.wide (Nat.le_refl _) (by omega)), H5.out.2.1.kept o6 (.inr (by omega)) (.inl (by omega)), rt_keep h0'.2.2.1.2 h0'.2.2.2.1, obl_keep h0'.2.2.2.2.1, .slice fo q fc, ?_, ?_⟩, ((HF.out.2.1.any _ _).trans (H5.out.1.wide (by omega) (Nat.le_refl _))).trans (o6.wide (Nat.le_refl _) (by omega))⟩
            · show WAt _ b N (s 14) _ (keepSp N st (psF l L)).last
              rw [show (keepSp N st (psF l L)).last = st.last from (ln_parts N (kpSp1 N st (kpS (psF l L))) 8).2.2]
              exact H5.out.2.2.setV _
            · have hF := ownw (base' := w0.heap.size) (ownk (ownk HF.out.1 H5.out.1 (by omega)) o6 (by omega)) (by omega)
              show World.ownsRow _ _ _ _ _ (l.filter fun q => kpS (psF l L) q.1).length (bks (l.filter fun q => kpS (psF l L) q.1))
              rw [← HF.out.2.2.2, hq]
              exact hF
          · have := HTold.out a ha1
            rw [ha2] at this; cases this
theorem keeps_some {w0 w : World} {b N lo hi cap : Nat} {s : Nat → Nat} {st : Sp} {l : List (Nat × Blk)} (h : WSt w0 b N lo hi cap s w st l) (hN : N ≤ 12) (h0 : 0 < l.length) {L : List Int} {p : Option Addr} {cp : Nat} (hL : SlI w b p L) (hLl : L.length ≤ 400) :
    Calls Tryd.prog 21 #[.pointer (some ⟨b, 0, none⟩), .slice p L.length cp] w fun e w' => e = .returned (.bool true) ∧ WSt w0 b N lo hi cap s w' (kpP N st l L).1 (kpP N st l L).2 :=
  (keeps_someO h hN h0 hL hLl).mono fun _ _ q => ⟨q.1, q.2.1⟩
end Go.Proofs.YtjbbkeoolodeaabDoor
namespace Go.Proofs.YtjbbkeoolodeaabDoor
open Go.RowKit
set_option linter.unusedVariables false
set_option linter.unusedSimpArgs false

/-- all are freed -/
theorem keepNil0 {w : World} {lo hi n cap : Nat} {s : Nat → Nat} {st : Sp} (h : SpAt w lo hi s n cap st) {m : Nat} (hm : freedTo (rawOf n st) (fun _ => false) (64 * n) = m) :
    Calls Tryd.prog 42 #[.pointer (some ⟨s 14, 0, none⟩), .slice none 0 0] w fun e w' => e = .returned (.tuple #[.int .i64 (m : Int), .int .i64 0]) ∧ SpAt w' lo hi s n cap (keepSp n st []) ∧ Out lo hi w w' := by
  refine (spKeep_any h (l := []) (p := none) (cp := 0) (.inl rfl) (by decide)).mono ?_
  rintro e w' ⟨o, ⟨_, h2, h3⟩ | ⟨⟨a, ha, _⟩, _⟩⟩
  · rw [kp_nil, hm] at h2
    exact ⟨h2, h3, o⟩
  · cases ha
set_option maxRecDepth 100000 in
set_option maxHeartbeats 8000000 in
theorem keeps_noneO {w0 w : World} {b N lo hi cap : Nat} {s : Nat → Nat} {st : Sp} (h : WSt w0 b N lo hi cap s w st []) {L : List Int} {p : Option Addr} {cp : Nat} (hLl : L.length ≤ 400) :
    Calls Tryd.prog 21 #[.pointer (some ⟨b, 0, none⟩), .slice p L.length cp] w fun e w' => e = .returned (.bool true) ∧ WSt w0 b N lo hi cap s w' (keepSp N st []) [] ∧ Out b hi w w' := by
  have H0 := hid_mk h
  obtain ⟨h1, h2, h3, h4, h5, v, h6, h7⟩ := h
  obtain ⟨vo, vc, rfl⟩ := own_form h7
  replace h6 : WAt w b N (s 14) (.slice vo 0 vc) st.last := h6
  have hmk := run_make_row' (P := Tryd.prog) 29 4 (.bool false) 1 Tryd.underlying29 (by kernel_rfl) rfl .i64 .i64 0 (by omega) (by omega)
  rw [show ((0 : Nat) : Int) = 0 from rfl] at hmk
  have hfr : freedTo (rawOf N st) (fun _ => false) (64 * N) = 0 := by
    have := freed_list h3.2 h5 []
    rw [kp_nil] at this
    exact this
  have c1 := h6.cells.2.1
  have c2 := h6.cells.2.2.1
  have HB := hid_mk h1
  have HW := hid_mk (And.intro h6 (And.intro h3 hfr))
  clear h1 h2 h3 h4 h5 h6 h7 hfr
  go_enter Tryd.func21, Tryd.ntmps21
  have LL0 : (0 : Int) ≤ (L.length : Int) := by omega
  have HLe : Hid (L.length ≤ 400) := hLl
  go_wp2_with fail
  obtain ⟨W1, hW1⟩ : ∃ W, w.alloc (.cells (madeCells #[.bool false] 0) 4) = W := ⟨_, rfl⟩
  obtain ⟨G, hG⟩ : ∃ G, w.heap.size = G := ⟨_, rfl⟩
  have HO1 : Hid (Out 0 0 w W1) := by rw [← hW1]; exact (Out.refl 0 0 w).alloc _
  rw [hW1, hG]
  clear hW1 hG hmk
  go_loopw [6, 7] (fun pv u wr => pv = .slice none 0 0 ∧ u = .int .i64 0 ∧ Out 0 0 w wr) (fun _ _ _ => 0)
  case atStart => exact ⟨rfl, rfl, HO1.out⟩
  case round =>
    clear HO1
    obtain ⟨rfl, rfl, ro⟩ := hrel
    have d1 := ro.cell c1 (.inr (Nat.zero_le _))
    have d2 := ro.cell c2 (.inr (Nat.zero_le _))
    have HO := hid_mk ro
    clear ro c1 c2
    by_cases h0 : 0 < L.length
    · have l0 : (0 : Int) < (L.length : Int) := by omega
      go_wp2_with fail
      go_loopw [9, 10] (fun lv u wq => lv = .slice none 0 0 ∧ u = .int .i64 0 ∧ Out 0 0 w wq) (fun _ _ _ => 0)
      case atStart => exact ⟨rfl, rfl, HO.out⟩
      case round =>
        clear d1 d2 HO
        obtain ⟨rfl, rfl, ro⟩ := hrel
        have hWr := HW.out.1.kept ro (.inr (Nat.zero_le _))
        have d1 := hWr.cells.2.1
        have d2 := hWr.cells.2.2.1
        have HKp := hid_mk (keepNil0 (HW.out.2.1.quiet ro) HW.out.2.2)
        rw [show ((0 : Nat) : Int) = 0 from rfl] at HKp
        have HO := hid_mk (And.intro ro hWr)
        clear ro hWr
        go_wp2_with fail
        refine HKp.out.mono ?_
        rintro e5 w5 ⟨rfl, hs5, o5⟩
        have hb0 := HB.out
        have hW5 := HO.out.2.kept o5 (.inl hb0.1)
        have f2 := hW5.cells.2.2.1
        have f3 := hW5.cells.2.2.2.2 2
        have H5 := hid_mk (And.intro o5 (And.intro hs5 hW5))
        clear o5 hs5 hW5 d1 d2 HKp
        go_wp2
        go_ret
        have o6 : Out b (b + 1) w5 (w5.setCell ⟨b, 2, none⟩ (.slice none 0 0)) := (Out.refl _ _ _).setCell (p := ⟨b, 2, none⟩) (.inl ⟨Nat.le_refl _, Nat.lt_succ_self _⟩) _
        have h0' := H0.out
        refine ⟨rfl, ⟨hb0, ((h0'.2.1.trans (HO.out.1.any _ _)).trans (H5.out.1.wide (by omega) (Nat.le_refl _))).trans (o6.wide (Nat.le_refl _) (by omega)), H5.out.2.1.kept o6 (.inr (by omega)) (.inl (by omega)), rt_keep h0'.2.2.1.2 h0'.2.2.2.1, obl_keep h0'.2.2.2.2.1, .slice none 0 0, ?_, ⟨rfl, .inl ⟨rfl, rfl⟩⟩⟩, ((HO.out.1.any _ _).trans (H5.out.1.wide (by omega) (Nat.le_refl _))).trans (o6.wide (Nat.le_refl _) (by omega))⟩
        rw [show (keepSp N st []).last = st.last from (ln_parts N (kpSp1 N st (kpS [])) 8).2.2]
        exact H5.out.2.2.setV _
    · have l0 : ¬ (0 : Int) < (L.length : Int) := by omega
      have l1 : decide ((0 : Int) < (L.length : Int)) = false := decide_eq_false l0
      go_wp2_with fail
      go_loopw [9, 10] (fun lv u wq => lv = .slice none 0 0 ∧ u = .int .i64 0 ∧ Out 0 0 w wq) (fun _ _ _ => 0)
      case atStart => exact ⟨rfl, rfl, HO.out⟩
      case round =>
        clear d1 d2 HO
        obtain ⟨rfl, rfl, ro⟩ := hrel
        have hWr := HW.out.1.kept ro (.inr (Nat.zero_le _))
        have d1 := hWr.cells.2.1
        have d2 := hWr.cells.2.2.1
        have HKp := hid_mk (keepNil0 (HW.out.2.1.quiet ro) HW.out.2.2)
        rw [show ((0 : Nat) : Int) = 0 from rfl] at HKp
        have HO := hid_mk (And.intro ro hWr)
        clear ro hWr
        go_wp2_with fail
        refine HKp.out.mono ?_
        rintro e5 w5 ⟨rfl, hs5, o5⟩
        have hb0 := HB.out
        have hW5 := HO.out.2.kept o5 (.inl hb0.1)
        have f2 := hW5.cells.2.2.1
        have f3 := hW5.cells.2.2.2.2 2
        have H5 := hid_mk (And.intro o5 (And.intro hs5 hW5))
        clear o5 hs5 hW5 d1 d2 HKp
        go_wp2
        go_ret
        have o6 : Out b (b + 1) w5 (w5.setCell ⟨b, 2, none⟩ (.slice none 0 0)) := (Out.refl _ _ _).setCell (p := ⟨b, 2, none⟩) (.inl ⟨Nat.le_refl _, Nat.lt_succ_self _⟩) _
        have h0' := H0.out
        refine ⟨rfl, ⟨hb0, ((h0'.2.1.trans (HO.out.1.any _ _)).trans (H5.out.1.wide (by omega) (Nat.le_refl _))).trans (o6.wide (Nat.le_refl _) (by omega)), H5.out.2.1.kept o6 (.inr (by omega)) (.inl (by omega)), rt_keep h0'.2.2.1.2 h0'.2.2.2.1, obl_keep h0'.2.2.2.2.1, .slice none 0 0, ?_, ⟨rfl, .inl ⟨rfl, rfl⟩⟩⟩, ((HO.out.1.any _ _).trans (H5.out.1.wide (by omega) (Nat.le_refl _))).trans (o6.wide (Nat.le_refl _) (by omega))⟩
        rw [show (keepSp N st []).last = st.last from (ln_parts N (kpSp1 N st (kpS [])) 8).2.2]
        exact H5.out.2.2.setV _
theorem keeps_none {w0 w : World} {b N lo hi cap : Nat} {s : Nat → Nat} {st : Sp} (h : WSt w0 b N lo hi cap s w st []) {L : List Int} {p : Option Addr} {cp : Nat} (hLl : L.length ≤ 400) :
    Calls Tryd.prog 21 #[.pointer (some ⟨b, 0, none⟩), .slice p L.length cp] w fun e w' => e = .returned (.bool true) ∧ WSt w0 b N lo hi cap s w' (keepSp N st []) [] :=
  (keeps_noneO h hLl).mono fun _ _ q => ⟨q.1, q.2.1⟩
end Go.Proofs.YtjbbkeoolodeaabDoor
