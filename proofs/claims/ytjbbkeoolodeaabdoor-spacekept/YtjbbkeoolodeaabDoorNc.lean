import Derived.Test.YtjbbkeoolodeaabDoorNa
import Derived.Test.YtjbbkeoolodeaabDoorNb
import Derived.Test.YtjbbkeoolodeaabDoorMn
namespace Go.Proofs.YtjbbkeoolodeaabDoor
open Go.RowKit
set_option linter.unusedVariables false
set_option linter.unusedSimpArgs false

theorem obl_len {n : Nat} {st : Sp} {l : List (Nat × Blk)} (hi : Inv n st) (h : ObL st l) : l.length ≤ 64 * n := by
  have := cnt_list (m := 64 * n) (l.map Prod.fst) h.1 (fun a ha => by
    obtain ⟨q, hq, rfl⟩ := List.mem_map.1 ha
    exact (hi.objs q.1 (by rw [(h.2.1 q hq).1]; exact (h.2.1 q hq).2)).1)
  have h2 := cnt_le (fun j => (l.map Prod.fst).contains j) (64 * n)
  rw [this, List.length_map] at h2
  exact h2
/-- the law's world: a space in which nothing is wrong, the list of its objects, the last serial; from the world w0 on -/
def WSt (w0 : World) (b N lo hi cap : Nat) (s : Nat → Nat) (w : World) (st : Sp) (l : List (Nat × Blk)) : Prop :=
  (b < lo ∧ lo ≤ hi ∧ hi ≤ w0.heap.size ∧ 4 ≤ b) ∧ Out b hi w0 w ∧ SpAt w lo hi s N cap st ∧ Rt N st ∧ ObL st l ∧ ∃ v, WAt w b N (s 14) v st.last ∧ BListIs w w0.heap.size v l
section
variable {w0 w w' : World} {b N lo hi cap : Nat} {s : Nat → Nat} {st : Sp} {l : List (Nat × Blk)}
theorem WSt.quiet (h : WSt w0 b N lo hi cap s w st l) (o : Out 0 0 w w') : WSt w0 b N lo hi cap s w' st l := by
  obtain ⟨h1, h2, h3, h4, h5, v, h6, h7⟩ := h
  exact ⟨h1, h2.trans (o.any _ _), h3.quiet o, h4, h5, v, h6.kept o (.inr (Nat.zero_le _)), ownk h7 o (Nat.zero_le _)⟩
/-- the space has changed -/
theorem WSt.turn (h : WSt w0 b N lo hi cap s w st l) {st' : Sp} (o : Out lo hi w w') (hs : SpAt w' lo hi s N cap st') (hr : Rt N st') (hl : ObL st' l) (he : st'.last = st.last) : WSt w0 b N lo hi cap s w' st' l := by
  obtain ⟨h1, h2, h3, h4, h5, v, h6, h7⟩ := h
  exact ⟨h1, h2.trans (o.wide (by omega) (Nat.le_refl _)), hs, hr, hl, v, by rw [he]; exact h6.kept o (.inl h1.1), ownk h7 o (by omega)⟩
end
theorem blk_cells {w : World} {g : Nat} {a k z x t : Int} (h : w.heap[g]? = some (bo a k z x t)) : ∀ j u, ([.int .i64 a, .int .i64 k, .int .i64 z, .int .i64 x, .int .i64 t] : List Value)[j]? = some u → w.cell? ((⟨g, 0, none⟩ : Addr).add j) = some u := by
  intro j u hj
  have hj5 : j < 5 := by have := (List.getElem?_eq_some_iff.1 hj).1; simpa using this
  have : j = 0 ∨ j = 1 ∨ j = 2 ∨ j = 3 ∨ j = 4 := by omega
  rw [Addr.add_lit, Nat.zero_add]
  obtain ⟨f0, f1, f2, f3, f4⟩ := bo_facts h
  rcases this with rfl | rfl | rfl | rfl | rfl <;> (simp at hj; subst hj; assumption)
/-- an object appended to a list of objects, in a region that draws its order -/
theorem app_stepB {ops : Array Oper} {o : Oper} {ac : Go.Act} {w : World} {K : Go.Act → World → Prop} {Q : Exit → Go.Act → World → Prop} {E : Prop} (hgd : o.guard = none) (sx xx : Operand)
    (ho : o.op = .call { callee := .builtin .append, args := #[sx, xx], argTypes := #[31, 31] })
    (base : Nat) (v : Value) (l : List (Nat × Blk)) (m : Nat) (hs : ac.eval sx = v) (hown : BListIs w base v l) (hm : l.length = m) (bb : Nat) (hx : ac.eval xx = .slice (some ⟨bb, 0, none⟩) 1 1) (a : Nat) (k z x t : Int) (hn : w.heap[bb]? = some (bo (a : Int) k z x t))
    (hlen : m ≤ 1000) (hbase : base ≤ w.heap.size)
    (h : ∀ g cap w', BListIs w' base (.slice (some ⟨g, 0, none⟩) (m + 1) cap) (l ++ [(a, (k, z, x, t))]) → Out base w.heap.size w w' → w.grownBy w' v.ownBlock → K (ac.put o.dst (.slice (some ⟨g, 0, none⟩) (m + 1) cap)) w') :
    if Region.wanted o (yielded ops ac.tmps) = true then Oper.wp Tryd.prog o ac w K Q else E := by
  have hw : Region.wanted o (yielded ops ac.tmps) = true := by simp [Region.wanted, hgd]
  rw [if_pos hw]
  obtain ⟨i0, hi0, hz0, hz1, hz2⟩ := info_parts info_blk
  obtain ⟨v2, w', hrun, hown2, hgrow, hnil⟩ := run_append_own (P := Tryd.prog) w base 31 o.type 36 i0 (.agg #[.int .i64 0, .int .i64 0, .int .i64 0, .int .i64 0, .int .i64 0]) 5 40 Tryd.underlying31 hi0 hz0 hz1 hz2 rfl (by decide) v l.length (bks l) hown ⟨bb, 0, none⟩ 1 1 [.int .i64 (a : Int), .int .i64 k, .int .i64 z, .int .i64 x, .int .i64 t] rfl (blk_cells hn) (by intro u hu; simp at hu; rcases hu with rfl | rfl | rfl | rfl | rfl <;> rfl) (by unfold maxLen; omega) (by omega) hbase
  obtain ⟨g4, cap4, rfl, hg4, _⟩ := hown2.form (by omega)
  have hl2 : BListIs w' base (.slice (some ⟨g4, 0, none⟩) (m + 1) cap4) (l ++ [(a, (k, z, x, t))]) := by
    unfold BListIs
    rw [bks_append, List.length_append, ← hm]
    exact hown2
  rw [hm] at hrun
  unfold Oper.wp
  simp [execOp, ho, resolve, invoke, builtin, hs, hx, hrun, Result.andThen]
  exact h g4 cap4 w' hl2 (grown_out (base := base) hgrow (fun g hg => (own_block hown g hg).1)) hgrow
/-- what a taking leaves -/
def tkP (N : Nat) (st : Sp) (l : List (Nat × Blk)) (k z t : Int) : Sp × List (Nat × Blk) :=
  match placeF N st z with
  | some (a, fresh) => if fitsB k z then (takeF N st a fresh k z t, l ++ [(a, (k, z, serOf st k, t))]) else (st, l)
  | none => (st, l)
set_option maxRecDepth 100000 in
set_option maxHeartbeats 8000000 in
theorem takes_any {w0 w : World} {b N lo hi cap : Nat} {s : Nat → Nat} {st : Sp} {l : List (Nat × Blk)} (h : WSt w0 b N lo hi cap s w st l) (hN : N ≤ 12) (hll : st.last < 1000000) (k z t : Int) (z1 : -9223372036854775808 ≤ z) (z2 : z ≤ 9223372036854775807) :
    Calls Tryd.prog 28 #[.pointer (some ⟨b, 0, none⟩), .int .i64 k, .int .i64 z, .int .i64 t] w fun e w' => e = .returned (.bool true) ∧ WSt w0 b N lo hi cap s w' (tkP N st l k z t).1 (tkP N st l k z t).2 := by
  have H0 := hid_mk h
  obtain ⟨i0, hi0, hz0, hz1, hz2⟩ := info_parts info_blk
  obtain ⟨h1, h2, h3, h4, h5, v, h6, h7⟩ := h
  have c1 := h6.cells.2.1
  cases hf : fitsB k z with
  | false =>
    have ha : alF N st k z t = (0, 24, 0, st) := by unfold alF; rw [hf]; rfl
    have ht : tkP N st l k z t = (st, l) := by unfold tkP; rw [hf]; split <;> rfl
    rw [ht]
    have HAc := hid_mk (alloc_is h3 z1 z2 (by omega) ha)
    clear h1 h2 h3 h4 h5 h6 h7 ha ht z1 z2 hll hf
    go_enter Tryd.func28, Tryd.ntmps28
    go_wp2_with fail
    refine HAc.out.mono ?_
    rintro e w1 ⟨rfl, hs, ho⟩
    have H1 := hid_mk (H0.out.turn ho hs H0.out.2.2.2.1 H0.out.2.2.2.2.1 rfl)
    clear hs ho HAc c1
    go_wp2
    go_ret
    exact ⟨rfl, H1.out.quiet ((Out.refl 0 0 _).alloc _)⟩
  | true =>
    rcases al_right (t := t) h3.2 h4 hf with ⟨a1, a2⟩ | ⟨a, fresh, a1, a2, a3, a4, a5, a6, a7⟩
    · have ht : tkP N st l k z t = (st, l) := by unfold tkP; rw [a1]
      rw [ht]
      have HAc := hid_mk (alloc_is h3 z1 z2 (by omega) a2)
      clear h1 h2 h3 h4 h5 h6 h7 ht z1 z2 hll hf a1 a2
      go_enter Tryd.func28, Tryd.ntmps28
      go_wp2_with fail
      refine HAc.out.mono ?_
      rintro e w1 ⟨rfl, hs, ho⟩
      have H1 := hid_mk (H0.out.turn ho hs H0.out.2.2.2.1 H0.out.2.2.2.2.1 rfl)
      clear hs ho HAc c1
      go_wp2
      go_ret
      exact ⟨rfl, H1.out.quiet ((Out.refl 0 0 _).alloc _)⟩
    · have ht : tkP N st l k z t = (takeF N st a fresh k z t, l ++ [(a, (k, z, serOf st k, t))]) := by unfold tkP; rw [a1, hf]; rfl
      rw [ht]
      have HAc := hid_mk (alloc_is h3 z1 z2 (by omega) a2)
      have hz := fits_size hf
      have hob := obl_take (n := N) (fresh := fresh) (t := t) h5 hf a5
      obtain ⟨st2, hst2⟩ : ∃ q, takeF N st a fresh k z t = q := ⟨_, rfl⟩
      have hO2 : st2.O a = (k, z, serOf st k, t) := by rw [← hst2, takeF_O, putO_self]
      have hlast : st2.last = lastOf st k := by rw [← hst2]; rfl
      rw [hst2] at a3 a4 hob HAc ⊢
      obtain ⟨x, hx⟩ : ∃ x, serOf st k = x := ⟨_, rfl⟩
      rw [hx] at hO2 hob ⊢
      have HP := hid_mk (And.intro a4 (And.intro hob (And.intro hO2 hlast)))
      have HL0 := hid_mk hll
      have hbk := h1
      have HB1 := hid_mk (And.intro h6 h7)
      have HL1 := hid_mk (obl_len h3.2 h5)
      have hA7 := a7
      have hN12 := hN
      by_cases hn : numB k = true
      · have hn1 : (1 : Int) ≤ k := by unfold numB at hn; simp at hn; omega
        have hn2 : k ≤ 11 := by unfold numB at hn; simp at hn; omega
        have hx2 : x = st.last + 1 := by rw [← hx]; unfold serOf; rw [if_pos hn]
        have hla : lastOf st k = st.last + 1 := by unfold lastOf; rw [if_pos hn]
        have hl0 : 0 ≤ st.last := h3.2.last0
        clear h2 h3 h4 h5 h6 h7 ht z1 z2 hf a1 a2 a3 a4 a5 a6 hz hob hO2 hlast hst2 hx hn
        go_enter Tryd.func28, Tryd.ntmps28
        go_wp2_with fail
        refine HAc.out.mono ?_
        rintro e w1 ⟨rfl, hs1, ho1⟩
        have hsz := hs1.1.top
        have hB1 := HB1.out.1.kept ho1 (.inl hbk.1)
        have hb1 : b < w1.heap.size := hB1.lt
        obtain ⟨d0, d1, d2, d3, d4⟩ := hB1.cells
        have d5 := d4 3
        have H1 := hid_mk (And.intro hs1 (And.intro ho1 hB1))
        clear hs1 ho1 HAc c1 hB1 d4 d0 d2
        go_wp2_with fail
        rw [← hx2]
        obtain ⟨W3, hW3e⟩ : ∃ W, ((w1.setCell ⟨b, 3, none⟩ (.int .i64 x)).alloc (.cells #[.int .i64 0, .int .i64 0] 57)).alloc (.cells #[.int .i64 (a : Int), .int .i64 k, .int .i64 z, .int .i64 x, .int .i64 t] 36) = W := ⟨_, rfl⟩
        obtain ⟨Bb, hBb⟩ : ∃ B, w1.heap.size + 1 = B := ⟨_, rfl⟩
        have o1 : Out b (b + 1) w1 W3 := by rw [← hW3e]; exact ((((Out.refl _ _ _).setCell (p := ⟨b, 3, none⟩) (.inl ⟨Nat.le_refl _, Nat.lt_succ_self _⟩) _).alloc _).alloc _)
        have hW3 : WAt W3 b N (s 14) v st2.last := by
          rw [HP.out.2.2.2, hla, ← hx2, ← hW3e]
          exact ((H1.out.2.2.setL x).kept (((Out.refl 0 0 _).alloc _).alloc _) (.inr (Nat.zero_le _)))
        have hS3 : SpAt W3 lo hi s N cap st2 := H1.out.1.kept o1 (.inr (by omega)) (.inl (by omega))
        have hK3 : W3.heap[Bb]? = some (bo (a : Int) k z x t) := by
          have e : ((w1.setCell ⟨b, 3, none⟩ (.int .i64 x)).alloc (.cells #[.int .i64 0, .int .i64 0] 57)).heap.size = w1.heap.size + 1 := by rw [World.size_alloc]; simp [World.setCell]
          rw [← hW3e, ← hBb, ← e]
          exact heap_alloc_new _ _
        have hL3 : BListIs W3 w0.heap.size v l := ownk (ownk HB1.out.2 H1.out.2.1 (by omega)) o1 (by omega)
        have hO3 : Out b hi w0 W3 := (H0.out.2.1.trans (H1.out.2.1.wide (by omega) (Nat.le_refl _))).trans (o1.wide (Nat.le_refl _) (by omega))
        have HBw : Hid (w.heap.size < Bb) := by have := H1.out.2.1.size; show _ < _; omega
        have HBb : Hid (w0.heap.size ≤ Bb) := by have := H0.out.2.1.size; have := H1.out.2.1.size; show _ ≤ _; omega
        have hm : (rawOf N st2).M (a : Int) = some (k, z, x, t) := by
          show obM st2 (a : Int) = _
          unfold obM
          rw [show ((a : Int)).toNat = a from by omega, HP.out.2.2.1, if_pos ⟨by omega, by unfold hasB; simp; omega⟩]
        rw [hW3e, hBb]
        clear hW3e hBb d1 d3 d5 H1 o1 hx2 hla
        refine (block_some hS3.1 hm).mono ?_
        rintro e w4 ⟨rfl, ho4⟩
        have H4 := hid_mk (And.intro hW3 (And.intro hS3 (And.intro hK3 (And.intro hL3 (And.intro hO3 ho4)))))
        clear hW3 hS3 hK3 hL3 hO3 ho4 hm
        go_wp2_with fail
        obtain ⟨W5, hW5⟩ : ∃ W, w4.alloc (.cells #[.int .i64 (a : Int), .int .i64 k, .int .i64 z, .int .i64 x, .int .i64 t] 36) = W := ⟨_, rfl⟩
        obtain ⟨B4, hB4⟩ : ∃ B, w4.heap.size = B := ⟨_, rfl⟩
        have o5 : Out 0 0 w4 W5 := by rw [← hW5]; exact (Out.refl 0 0 w4).alloc _
        have hC5 : W5.heap[B4]? = some (bo (a : Int) k z x t) := by rw [← hW5, ← hB4]; exact heap_alloc_new _ _
        have o35 := H4.out.2.2.2.2.2.trans o5
        have hK5 := o35.heap H4.out.2.2.1 (.inr (Nat.zero_le _))
        have HW5 := hid_mk (H4.out.1.kept o35 (.inr (Nat.zero_le _)))
        have HR5 := hid_mk (show W5.ownsRow w0.heap.size 36 5 v l.length (bks l) from ownk H4.out.2.2.2.1 o35 (Nat.zero_le _))
        have HS5 := hid_mk (H4.out.2.1.quiet o35)
        have HO5 := hid_mk (H4.out.2.2.2.2.1.trans (o35.any _ _))
        have HZ5 : Hid (w0.heap.size ≤ W5.heap.size) := HO5.out.size
        have HC5 := hid_mk (And.intro hC5 hK5)
        have HX5 : Hid (Bb < B4 ∧ B4 < W5.heap.size) := ⟨by have h8 := heap_lt H4.out.2.2.1; have h9 := H4.out.2.2.2.2.2.size; show Bb < B4; omega, heap_lt hC5⟩
        have HVb : Hid (∀ g, v.ownBlock = some g → g ≠ Bb ∧ g ≠ B4) := fun g hg => by
          have h8 := (own_block HB1.out.2 g hg).2
          have h9 := HX5.out
          have hw := HBw.out
          omega
        have HB5 : Hid (b < w0.heap.size ∧ w0.heap.size ≤ Bb ∧ Bb < W3.heap.size) := ⟨by have := H0.out.1; omega, HBb.out, heap_lt H4.out.2.2.1⟩
        obtain ⟨q0, q1, q2, q3, q4⟩ := bo_facts hK5
        obtain ⟨m, hm⟩ : ∃ m, l.length = m := ⟨_, rfl⟩
        have HMl := hid_mk hm
        clear hm
        rw [hW5, hB4]
        clear hW5 hB4 o5 hC5 hK5 o35 H4
        refine wp_region_held_drew (S := fun w' => w'.cell? ⟨Bb, 0, none⟩ = some (.int .i64 (a : Int)) ∧ w'.cell? ⟨Bb, 1, none⟩ = some (.int .i64 k) ∧ w'.cell? ⟨Bb, 2, none⟩ = some (.int .i64 z) ∧ w'.cell? ⟨Bb, 3, none⟩ = some (.int .i64 x) ∧ w'.cell? ⟨Bb, 4, none⟩ = some (.int .i64 t)) (by kernel_rfl) ?hS1 (fun hHeld => ?rest1)
        case hS1 => exact ⟨q0, q1, q2, q3, q4⟩
        obtain ⟨Z, hZ⟩ : ∃ Z, W5.drew = Z := ⟨_, rfl⟩
        have OZ : Out 0 0 W5 Z := by rw [← hZ]; exact (Out.refl 0 0 W5).drew
        have fW := HW5.out.kept OZ (.inr (Nat.zero_le _))
        have fR := ownk HR5.out OZ (Nat.zero_le _)
        rw [hZ] at hHeld ⊢
        clear hZ
        refine wpAnyH_take (i := 0) (v := ?v2) rfl (by kernel_rfl) (by kernel_rfl) (by kernel_rfl) (fun _ _ _ h => h) (Or.inl ⟨by rfl, ?hy2⟩) (by assumption) ?rest2
        case hy2 => (intro w hSw; (try dsimp only at hSw); simp only [List.getElem_toArray, List.getElem_cons_zero, List.getElem_cons_succ]; go_simp; (try with_reducible rfl))
        (try simp only [Act.put, List.getElem_toArray, List.getElem_cons_zero, List.getElem_cons_succ, List.setIfInBounds_toArray, List.set_cons_zero, List.set_cons_succ])
        refine wpAnyH_take (i := 1) (v := ?v3) rfl (by kernel_rfl) (by kernel_rfl) (by kernel_rfl) (fun _ _ _ h => h) (Or.inl ⟨by rfl, ?hy3⟩) (by assumption) ?rest3
        case hy3 => (intro w hSw; (try dsimp only at hSw); simp only [List.getElem_toArray, List.getElem_cons_zero, List.getElem_cons_succ]; go_simp; (try with_reducible rfl))
        (try simp only [Act.put, List.getElem_toArray, List.getElem_cons_zero, List.getElem_cons_succ, List.setIfInBounds_toArray, List.set_cons_zero, List.set_cons_succ])
        refine wpAnyH_take (i := 2) (v := ?v4) rfl (by kernel_rfl) (by kernel_rfl) (by kernel_rfl) (fun _ _ _ h => h) (Or.inl ⟨by rfl, ?hy4⟩) (by assumption) ?rest4
        case hy4 => (intro w hSw; (try dsimp only at hSw); simp only [List.getElem_toArray, List.getElem_cons_zero, List.getElem_cons_succ]; go_simp; (try with_reducible rfl))
        (try simp only [Act.put, List.getElem_toArray, List.getElem_cons_zero, List.getElem_cons_succ, List.setIfInBounds_toArray, List.set_cons_zero, List.set_cons_succ])
        refine wpAnyH_take (i := 3) (v := ?v5) rfl (by kernel_rfl) (by kernel_rfl) (by kernel_rfl) (fun _ _ _ h => h) (Or.inl ⟨by rfl, ?hy5⟩) (by assumption) ?rest5
        case hy5 => (intro w hSw; (try dsimp only at hSw); simp only [List.getElem_toArray, List.getElem_cons_zero, List.getElem_cons_succ]; go_simp; (try with_reducible rfl))
        (try simp only [Act.put, List.getElem_toArray, List.getElem_cons_zero, List.getElem_cons_succ, List.setIfInBounds_toArray, List.set_cons_zero, List.set_cons_succ])
        refine wpAnyH_take (i := 5) (v := ?v6) rfl (by kernel_rfl) (by kernel_rfl) (by kernel_rfl) (fun _ _ _ h => h) (Or.inl ⟨by rfl, ?hy6⟩) (by assumption) ?rest6
        case hy6 => (intro w hSw; (try dsimp only at hSw); simp only [List.getElem_toArray, List.getElem_cons_zero, List.getElem_cons_succ]; go_simp; (try with_reducible rfl))
        (try simp only [Act.put, List.getElem_toArray, List.getElem_cons_zero, List.getElem_cons_succ, List.setIfInBounds_toArray, List.set_cons_zero, List.set_cons_succ])
        refine wpAnyH_ready (rs := [4, 6]) (by kernel_rfl) (by simp) ?_
        refine AllReadyH.cons rfl (fun KK hK => ?_) ?_
        · simp only [List.getElem_toArray, List.getElem_cons_zero, List.getElem_cons_succ]
          have cv := fW.cells.2.2.1
          go_simp
          clear cv
          refine hK.out _ _ ?hS7 (fun hHeld2 => ?rest7)
          case hS7 => exact hHeld
          clear hK KK
          (try clear hHeld)
          have hHeld := hHeld2
          clear hHeld2
          (try simp only [Act.put, List.getElem_toArray, List.getElem_cons_zero, List.getElem_cons_succ, List.setIfInBounds_toArray, List.set_cons_zero, List.set_cons_succ])
          refine wpAnyH_ready (rs := [6]) (by kernel_rfl) (by simp) ?_
          refine AllReadyH.cons rfl (fun KK hK => ?_) ?_
          · simp only [List.getElem_toArray, List.getElem_cons_zero, List.getElem_cons_succ]
            go_simp
            obtain ⟨bb, hbb⟩ : ∃ b, Z.heap.size = b := ⟨_, rfl⟩
            obtain ⟨XB, hW⟩ : ∃ W, Z.alloc (.cells #[.int .i64 (a : Int), .int .i64 k, .int .i64 z, .int .i64 x, .int .i64 t] 36) = W := ⟨_, rfl⟩
            have o1 : Out 0 0 Z XB := by rw [← hW]; exact (Out.refl 0 0 _).alloc _
            have fN : XB.heap[bb]? = some (bo (a : Int) k z x t) := by rw [← hW, ← hbb]; exact heap_alloc_new _ _
            replace fW := fW.kept o1 (.inr (Nat.zero_le _))
            replace fR := ownk fR o1 (Nat.zero_le _)
            replace OZ := OZ.trans o1
            (try rw [hW])
            (try rw [hbb])
            clear hW hbb
            refine hK.out _ _ ?hS8 (fun hHeld2 => ?rest8)
            case hS8 => exact ⟨o1.cell hHeld.1 (.inr (Nat.zero_le _)), o1.cell hHeld.2.1 (.inr (Nat.zero_le _)), o1.cell hHeld.2.2.1 (.inr (Nat.zero_le _)), o1.cell hHeld.2.2.2.1 (.inr (Nat.zero_le _)), o1.cell hHeld.2.2.2.2 (.inr (Nat.zero_le _))⟩
            clear o1
            clear hK KK
            (try clear hHeld)
            have hHeld := hHeld2
            clear hHeld2
            (try simp only [Act.put, List.getElem_toArray, List.getElem_cons_zero, List.getElem_cons_succ, List.setIfInBounds_toArray, List.set_cons_zero, List.set_cons_succ])
            refine wpAnyH_ready (rs := [7]) (by kernel_rfl) (by simp) ?_
            refine AllReadyH.cons rfl (fun KK hK => ?_) ?_
            · have hbs : w0.heap.size ≤ XB.heap.size := Nat.le_trans HZ5.out OZ.size
              refine app_stepB (by rfl) _ _ (by rfl) w0.heap.size v l m (by rfl) fR HMl.out bb (by rfl) a k z x t fN (by have := HL1.out; have := HMl.out; omega) hbs ?_
              intro g4 cap4 XBA fR2 o1 hgw
              have bE : XBA.heap[Bb]? = XB.heap[Bb]? := hgw.block Bb (by have := OZ.size; have := HB5.out; have := HX5.out; omega) (fun e => (HVb.out Bb e.symm).1 rfl)
              have bE4 : XBA.heap[B4]? = XB.heap[B4]? := hgw.block B4 (by have := OZ.size; have := HB5.out; have := HX5.out; omega) (fun e => (HVb.out B4 e.symm).2 rfl)
              have fW2 := fW.kept o1 (.inl (by have := HB5.out; omega))
              clear fN hbs hgw
              refine hK.out _ _ ?hS9 (fun hHeld2 => ?rest9)
              case hS9 => exact ⟨(World.cell?_of_block bE).trans hHeld.1, (World.cell?_of_block bE).trans hHeld.2.1, (World.cell?_of_block bE).trans hHeld.2.2.1, (World.cell?_of_block bE).trans hHeld.2.2.2.1, (World.cell?_of_block bE).trans hHeld.2.2.2.2⟩
              clear hK KK
              (try clear hHeld)
              have hHeld := hHeld2
              clear hHeld2
              (try simp only [Act.put, List.getElem_toArray, List.getElem_cons_zero, List.getElem_cons_succ, List.setIfInBounds_toArray, List.set_cons_zero, List.set_cons_succ])
              refine wpAnyH_take (i := 8) (v := ?v10) rfl (by kernel_rfl) (by kernel_rfl) (by kernel_rfl) (fun _ _ _ h => h) (Or.inl ⟨by rfl, ?hy10⟩) (by assumption) ?rest10
              case hy10 => (intro w hSw; (try dsimp only at hSw); simp only [List.getElem_toArray, List.getElem_cons_zero, List.getElem_cons_succ]; go_simp; (try with_reducible rfl))
              (try simp only [Act.put, List.getElem_toArray, List.getElem_cons_zero, List.getElem_cons_succ, List.setIfInBounds_toArray, List.set_cons_zero, List.set_cons_succ])
              refine wpAnyH_take (i := 9) (v := ?v11) rfl (by kernel_rfl) (by kernel_rfl) (by kernel_rfl) (fun _ _ _ h => h) (Or.inl ⟨by rfl, ?hy11⟩) (by assumption) ?rest11
              case hy11 => (intro w hSw; (try dsimp only at hSw); simp only [List.getElem_toArray, List.getElem_cons_zero, List.getElem_cons_succ]; go_simp; (try with_reducible rfl))
              (try simp only [Act.put, List.getElem_toArray, List.getElem_cons_zero, List.getElem_cons_succ, List.setIfInBounds_toArray, List.set_cons_zero, List.set_cons_succ])
              refine wpAnyH_ready (rs := [10]) (by kernel_rfl) (by simp) ?_
              refine AllReadyH.cons rfl (fun KK hK => ?_) ?_
              · simp only [List.getElem_toArray, List.getElem_cons_zero, List.getElem_cons_succ]
                have cv := fW2.cells.2.2.1
                have cf := fW2.cells.2.2.2.2 2
                go_simp
                clear cv cf
                obtain ⟨XE, hXE⟩ : ∃ W, XBA.setCell ⟨b, 2, none⟩ (.slice (some ⟨g4, 0, none⟩) (m + 1) cap4) = W := ⟨_, rfl⟩
                have oE : Out b (b + 1) XBA XE := by rw [← hXE]; exact (Out.refl _ _ _).setCell (p := ⟨b, 2, none⟩) (.inl ⟨Nat.le_refl _, Nat.lt_succ_self _⟩) _
                have fW3 : WAt XE b N (s 14) (.slice (some ⟨g4, 0, none⟩) (m + 1) cap4) st2.last := by rw [← hXE]; exact fW2.setV _
                rw [hXE]
                clear hXE
                have fC4 := oE.heap (bE4.trans (OZ.heap HC5.out.1 (.inr (Nat.zero_le _)))) (.inr (by have := HB5.out; have := HX5.out; omega))
                have fK4 := oE.heap (bE.trans (OZ.heap HC5.out.2 (.inr (Nat.zero_le _)))) (.inr (by have := HB5.out; omega))
                have fin : WSt w0 b N lo hi cap s XE st2 (l ++ [(a, (k, z, x, t))]) := by
                  have hb0 := H0.out.1
                  have hsz := OZ.size
                  have hz5 := HZ5.out
                  exact ⟨hb0, (out_far (HO5.out.trans (OZ.any _ _)) o1 (.inl (Nat.le_refl _))).trans (oE.wide (Nat.le_refl _) (by omega)), ((HS5.out.quiet OZ).kept o1 (.inl (by omega)) (.inl (by omega))).kept oE (.inr (by omega)) (.inl (by omega)), HP.out.1, HP.out.2.1, _, fW3, ownk fR2 oE (by omega)⟩
                refine hK.out _ _ ?hS12 (fun hHeld2 => ?rest12)
                case hS12 => exact ⟨oE.cell hHeld.1 (.inr (by have := HB5.out; omega)), oE.cell hHeld.2.1 (.inr (by have := HB5.out; omega)), oE.cell hHeld.2.2.1 (.inr (by have := HB5.out; omega)), oE.cell hHeld.2.2.2.1 (.inr (by have := HB5.out; omega)), oE.cell hHeld.2.2.2.2 (.inr (by have := HB5.out; omega))⟩
                clear hK KK
                (try clear hHeld)
                have hHeld := hHeld2
                clear hHeld2
                (try simp only [Act.put, List.getElem_toArray, List.getElem_cons_zero, List.getElem_cons_succ, List.setIfInBounds_toArray, List.set_cons_zero, List.set_cons_succ])
                refine wpAnyH_done (by kernel_rfl) ?_ _
                clear hHeld
                obtain ⟨r0, r1, r2, r3, r4⟩ := bo_facts fC4
                obtain ⟨s0, s1, s2, s3, s4⟩ := bo_facts fK4
                have FIN := hid_mk fin
                clear fin fC4 fK4 oE o1 fW fR fR2 fW2 fW3 OZ
                go_wp2
                go_ret
                exact ⟨rfl, FIN.out⟩
              · exact AllReadyH.nil
            · exact AllReadyH.nil
          · exact AllReadyH.nil
        · refine AllReadyH.cons rfl (fun KK hK => ?_) ?_
          · simp only [List.getElem_toArray, List.getElem_cons_zero, List.getElem_cons_succ]
            go_simp
            obtain ⟨bb, hbb⟩ : ∃ b, Z.heap.size = b := ⟨_, rfl⟩
            obtain ⟨XB, hW⟩ : ∃ W, Z.alloc (.cells #[.int .i64 (a : Int), .int .i64 k, .int .i64 z, .int .i64 x, .int .i64 t] 36) = W := ⟨_, rfl⟩
            have o1 : Out 0 0 Z XB := by rw [← hW]; exact (Out.refl 0 0 _).alloc _
            have fN : XB.heap[bb]? = some (bo (a : Int) k z x t) := by rw [← hW, ← hbb]; exact heap_alloc_new _ _
            replace fW := fW.kept o1 (.inr (Nat.zero_le _))
            replace fR := ownk fR o1 (Nat.zero_le _)
            replace OZ := OZ.trans o1
            (try rw [hW])
            (try rw [hbb])
            clear hW hbb
            refine hK.out _ _ ?hS13 (fun hHeld2 => ?rest13)
            case hS13 => exact ⟨o1.cell hHeld.1 (.inr (Nat.zero_le _)), o1.cell hHeld.2.1 (.inr (Nat.zero_le _)), o1.cell hHeld.2.2.1 (.inr (Nat.zero_le _)), o1.cell hHeld.2.2.2.1 (.inr (Nat.zero_le _)), o1.cell hHeld.2.2.2.2 (.inr (Nat.zero_le _))⟩
            clear o1
            clear hK KK
            (try clear hHeld)
            have hHeld := hHeld2
            clear hHeld2
            (try simp only [Act.put, List.getElem_toArray, List.getElem_cons_zero, List.getElem_cons_succ, List.setIfInBounds_toArray, List.set_cons_zero, List.set_cons_succ])
            refine wpAnyH_ready (rs := [4]) (by kernel_rfl) (by simp) ?_
            refine AllReadyH.cons rfl (fun KK hK => ?_) ?_
            · simp only [List.getElem_toArray, List.getElem_cons_zero, List.getElem_cons_succ]
              have cv := fW.cells.2.2.1
              go_simp
              clear cv
              refine hK.out _ _ ?hS14 (fun hHeld2 => ?rest14)
              case hS14 => exact hHeld
              clear hK KK
              (try clear hHeld)
              have hHeld := hHeld2
              clear hHeld2
              (try simp only [Act.put, List.getElem_toArray, List.getElem_cons_zero, List.getElem_cons_succ, List.setIfInBounds_toArray, List.set_cons_zero, List.set_cons_succ])
              refine wpAnyH_ready (rs := [7]) (by kernel_rfl) (by simp) ?_
              refine AllReadyH.cons rfl (fun KK hK => ?_) ?_
              · have hbs : w0.heap.size ≤ XB.heap.size := Nat.le_trans HZ5.out OZ.size
                refine app_stepB (by rfl) _ _ (by rfl) w0.heap.size v l m (by rfl) fR HMl.out bb (by rfl) a k z x t fN (by have := HL1.out; have := HMl.out; omega) hbs ?_
                intro g4 cap4 XBA fR2 o1 hgw
                have bE : XBA.heap[Bb]? = XB.heap[Bb]? := hgw.block Bb (by have := OZ.size; have := HB5.out; have := HX5.out; omega) (fun e => (HVb.out Bb e.symm).1 rfl)
                have bE4 : XBA.heap[B4]? = XB.heap[B4]? := hgw.block B4 (by have := OZ.size; have := HB5.out; have := HX5.out; omega) (fun e => (HVb.out B4 e.symm).2 rfl)
                have fW2 := fW.kept o1 (.inl (by have := HB5.out; omega))
                clear fN hbs hgw
                refine hK.out _ _ ?hS15 (fun hHeld2 => ?rest15)
                case hS15 => exact ⟨(World.cell?_of_block bE).trans hHeld.1, (World.cell?_of_block bE).trans hHeld.2.1, (World.cell?_of_block bE).trans hHeld.2.2.1, (World.cell?_of_block bE).trans hHeld.2.2.2.1, (World.cell?_of_block bE).trans hHeld.2.2.2.2⟩
                clear hK KK
                (try clear hHeld)
                have hHeld := hHeld2
                clear hHeld2
                (try simp only [Act.put, List.getElem_toArray, List.getElem_cons_zero, List.getElem_cons_succ, List.setIfInBounds_toArray, List.set_cons_zero, List.set_cons_succ])
                refine wpAnyH_take (i := 8) (v := ?v16) rfl (by kernel_rfl) (by kernel_rfl) (by kernel_rfl) (fun _ _ _ h => h) (Or.inl ⟨by rfl, ?hy16⟩) (by assumption) ?rest16
                case hy16 => (intro w hSw; (try dsimp only at hSw); simp only [List.getElem_toArray, List.getElem_cons_zero, List.getElem_cons_succ]; go_simp; (try with_reducible rfl))
                (try simp only [Act.put, List.getElem_toArray, List.getElem_cons_zero, List.getElem_cons_succ, List.setIfInBounds_toArray, List.set_cons_zero, List.set_cons_succ])
                refine wpAnyH_take (i := 9) (v := ?v17) rfl (by kernel_rfl) (by kernel_rfl) (by kernel_rfl) (fun _ _ _ h => h) (Or.inl ⟨by rfl, ?hy17⟩) (by assumption) ?rest17
                case hy17 => (intro w hSw; (try dsimp only at hSw); simp only [List.getElem_toArray, List.getElem_cons_zero, List.getElem_cons_succ]; go_simp; (try with_reducible rfl))
                (try simp only [Act.put, List.getElem_toArray, List.getElem_cons_zero, List.getElem_cons_succ, List.setIfInBounds_toArray, List.set_cons_zero, List.set_cons_succ])
                refine wpAnyH_ready (rs := [10]) (by kernel_rfl) (by simp) ?_
                refine AllReadyH.cons rfl (fun KK hK => ?_) ?_
                · simp only [List.getElem_toArray, List.getElem_cons_zero, List.getElem_cons_succ]
                  have cv := fW2.cells.2.2.1
                  have cf := fW2.cells.2.2.2.2 2
                  go_simp
                  clear cv cf
                  obtain ⟨XE, hXE⟩ : ∃ W, XBA.setCell ⟨b, 2, none⟩ (.slice (some ⟨g4, 0, none⟩) (m + 1) cap4) = W := ⟨_, rfl⟩
                  have oE : Out b (b + 1) XBA XE := by rw [← hXE]; exact (Out.refl _ _ _).setCell (p := ⟨b, 2, none⟩) (.inl ⟨Nat.le_refl _, Nat.lt_succ_self _⟩) _
                  have fW3 : WAt XE b N (s 14) (.slice (some ⟨g4, 0, none⟩) (m + 1) cap4) st2.last := by rw [← hXE]; exact fW2.setV _
                  rw [hXE]
                  clear hXE
                  have fC4 := oE.heap (bE4.trans (OZ.heap HC5.out.1 (.inr (Nat.zero_le _)))) (.inr (by have := HB5.out; have := HX5.out; omega))
                  have fK4 := oE.heap (bE.trans (OZ.heap HC5.out.2 (.inr (Nat.zero_le _)))) (.inr (by have := HB5.out; omega))
                  have fin : WSt w0 b N lo hi cap s XE st2 (l ++ [(a, (k, z, x, t))]) := by
                    have hb0 := H0.out.1
                    have hsz := OZ.size
                    have hz5 := HZ5.out
                    exact ⟨hb0, (out_far (HO5.out.trans (OZ.any _ _)) o1 (.inl (Nat.le_refl _))).trans (oE.wide (Nat.le_refl _) (by omega)), ((HS5.out.quiet OZ).kept o1 (.inl (by omega)) (.inl (by omega))).kept oE (.inr (by omega)) (.inl (by omega)), HP.out.1, HP.out.2.1, _, fW3, ownk fR2 oE (by omega)⟩
                  refine hK.out _ _ ?hS18 (fun hHeld2 => ?rest18)
                  case hS18 => exact ⟨oE.cell hHeld.1 (.inr (by have := HB5.out; omega)), oE.cell hHeld.2.1 (.inr (by have := HB5.out; omega)), oE.cell hHeld.2.2.1 (.inr (by have := HB5.out; omega)), oE.cell hHeld.2.2.2.1 (.inr (by have := HB5.out; omega)), oE.cell hHeld.2.2.2.2 (.inr (by have := HB5.out; omega))⟩
                  clear hK KK
                  (try clear hHeld)
                  have hHeld := hHeld2
                  clear hHeld2
                  (try simp only [Act.put, List.getElem_toArray, List.getElem_cons_zero, List.getElem_cons_succ, List.setIfInBounds_toArray, List.set_cons_zero, List.set_cons_succ])
                  refine wpAnyH_done (by kernel_rfl) ?_ _
                  clear hHeld
                  obtain ⟨r0, r1, r2, r3, r4⟩ := bo_facts fC4
                  obtain ⟨s0, s1, s2, s3, s4⟩ := bo_facts fK4
                  have FIN := hid_mk fin
                  clear fin fC4 fK4 oE o1 fW fR fR2 fW2 fW3 OZ
                  go_wp2
                  go_ret
                  exact ⟨rfl, FIN.out⟩
                · exact AllReadyH.nil
              · exact AllReadyH.nil
            · exact AllReadyH.nil
          · exact AllReadyH.nil
      · have hz' := fits_size hf
        have hn1 : (1 : Int) ≤ k := hz'.1
        have hn2 : 11 < k := by unfold numB at hn; simp at hn; omega
        have hx2 : x = 0 := by rw [← hx]; unfold serOf; rw [if_neg hn]
        have hla : lastOf st k = st.last := by unfold lastOf; rw [if_neg hn]
        clear h2 h3 h4 h5 h6 h7 ht z1 z2 hf a1 a2 a3 a4 a5 a6 hz hob hO2 hlast hst2 hx hn hz'
        subst hx2
        go_enter Tryd.func28, Tryd.ntmps28
        go_wp2_with fail
        refine HAc.out.mono ?_
        rintro e w1 ⟨rfl, hs1, ho1⟩
        have hsz := hs1.1.top
        have hB1 := HB1.out.1.kept ho1 (.inl hbk.1)
        have hb1 : b < w1.heap.size := hB1.lt
        obtain ⟨d0, d1, d2, d3, d4⟩ := hB1.cells
        have H1 := hid_mk (And.intro hs1 (And.intro ho1 hB1))
        clear hs1 ho1 HAc c1 hB1 d4 d0 d2 d3
        go_wp2_with fail
        obtain ⟨W3, hW3e⟩ : ∃ W, (w1.alloc (.cells #[.int .i64 0, .int .i64 0] 57)).alloc (.cells #[.int .i64 (a : Int), .int .i64 k, .int .i64 z, .int .i64 0, .int .i64 t] 36) = W := ⟨_, rfl⟩
        obtain ⟨Bb, hBb⟩ : ∃ B, w1.heap.size + 1 = B := ⟨_, rfl⟩
        have o1 : Out 0 0 w1 W3 := by rw [← hW3e]; exact ((Out.refl _ _ _).alloc _).alloc _
        have hW3 : WAt W3 b N (s 14) v st2.last := by
          rw [HP.out.2.2.2, hla]
          exact H1.out.2.2.kept o1 (.inr (Nat.zero_le _))
        have hS3 : SpAt W3 lo hi s N cap st2 := H1.out.1.quiet o1
        have hK3 : W3.heap[Bb]? = some (bo (a : Int) k z 0 t) := by
          have e : (w1.alloc (.cells #[.int .i64 0, .int .i64 0] 57)).heap.size = w1.heap.size + 1 := World.size_alloc _ _
          rw [← hW3e, ← hBb, ← e]
          exact heap_alloc_new _ _
        have hL3 : BListIs W3 w0.heap.size v l := ownk (ownk HB1.out.2 H1.out.2.1 (by omega)) o1 (Nat.zero_le _)
        have hO3 : Out b hi w0 W3 := (H0.out.2.1.trans (H1.out.2.1.wide (by omega) (Nat.le_refl _))).trans (o1.any _ _)
        have HBw : Hid (w.heap.size < Bb) := by have := H1.out.2.1.size; show _ < _; omega
        have HBb : Hid (w0.heap.size ≤ Bb) := by have := H0.out.2.1.size; have := H1.out.2.1.size; show _ ≤ _; omega
        have hm : (rawOf N st2).M (a : Int) = some (k, z, 0, t) := by
          show obM st2 (a : Int) = _
          unfold obM
          rw [show ((a : Int)).toNat = a from by omega, HP.out.2.2.1, if_pos ⟨by omega, by unfold hasB; simp; omega⟩]
        rw [hW3e, hBb]
        clear hW3e hBb d1 H1 o1 hla
        refine (block_some hS3.1 hm).mono ?_
        rintro e w4 ⟨rfl, ho4⟩
        have H4 := hid_mk (And.intro hW3 (And.intro hS3 (And.intro hK3 (And.intro hL3 (And.intro hO3 ho4)))))
        clear hW3 hS3 hK3 hL3 hO3 ho4 hm
        go_wp2_with fail
        obtain ⟨W5, hW5⟩ : ∃ W, w4.alloc (.cells #[.int .i64 (a : Int), .int .i64 k, .int .i64 z, .int .i64 0, .int .i64 t] 36) = W := ⟨_, rfl⟩
        obtain ⟨B4, hB4⟩ : ∃ B, w4.heap.size = B := ⟨_, rfl⟩
        have o5 : Out 0 0 w4 W5 := by rw [← hW5]; exact (Out.refl 0 0 w4).alloc _
        have hC5 : W5.heap[B4]? = some (bo (a : Int) k z 0 t) := by rw [← hW5, ← hB4]; exact heap_alloc_new _ _
        have o35 := H4.out.2.2.2.2.2.trans o5
        have hK5 := o35.heap H4.out.2.2.1 (.inr (Nat.zero_le _))
        have HW5 := hid_mk (H4.out.1.kept o35 (.inr (Nat.zero_le _)))
        have HR5 := hid_mk (show W5.ownsRow w0.heap.size 36 5 v l.length (bks l) from ownk H4.out.2.2.2.1 o35 (Nat.zero_le _))
        have HS5 := hid_mk (H4.out.2.1.quiet o35)
        have HO5 := hid_mk (H4.out.2.2.2.2.1.trans (o35.any _ _))
        have HZ5 : Hid (w0.heap.size ≤ W5.heap.size) := HO5.out.size
        have HC5 := hid_mk (And.intro hC5 hK5)
        have HX5 : Hid (Bb < B4 ∧ B4 < W5.heap.size) := ⟨by have h8 := heap_lt H4.out.2.2.1; have h9 := H4.out.2.2.2.2.2.size; show Bb < B4; omega, heap_lt hC5⟩
        have HVb : Hid (∀ g, v.ownBlock = some g → g ≠ Bb ∧ g ≠ B4) := fun g hg => by
          have h8 := (own_block HB1.out.2 g hg).2
          have h9 := HX5.out
          have hw := HBw.out
          omega
        have HB5 : Hid (b < w0.heap.size ∧ w0.heap.size ≤ Bb ∧ Bb < W3.heap.size) := ⟨by have := H0.out.1; omega, HBb.out, heap_lt H4.out.2.2.1⟩
        obtain ⟨q0, q1, q2, q3, q4⟩ := bo_facts hK5
        obtain ⟨m, hm⟩ : ∃ m, l.length = m := ⟨_, rfl⟩
        have HMl := hid_mk hm
        clear hm
        rw [hW5, hB4]
        clear hW5 hB4 o5 hC5 hK5 o35 H4
        refine wp_region_held_drew (S := fun w' => w'.cell? ⟨Bb, 0, none⟩ = some (.int .i64 (a : Int)) ∧ w'.cell? ⟨Bb, 1, none⟩ = some (.int .i64 k) ∧ w'.cell? ⟨Bb, 2, none⟩ = some (.int .i64 z) ∧ w'.cell? ⟨Bb, 3, none⟩ = some (.int .i64 0) ∧ w'.cell? ⟨Bb, 4, none⟩ = some (.int .i64 t)) (by kernel_rfl) ?hS19 (fun hHeld => ?rest19)
        case hS19 => exact ⟨q0, q1, q2, q3, q4⟩
        obtain ⟨Z, hZ⟩ : ∃ Z, W5.drew = Z := ⟨_, rfl⟩
        have OZ : Out 0 0 W5 Z := by rw [← hZ]; exact (Out.refl 0 0 W5).drew
        have fW := HW5.out.kept OZ (.inr (Nat.zero_le _))
        have fR := ownk HR5.out OZ (Nat.zero_le _)
        rw [hZ] at hHeld ⊢
        clear hZ
        refine wpAnyH_take (i := 0) (v := ?v20) rfl (by kernel_rfl) (by kernel_rfl) (by kernel_rfl) (fun _ _ _ h => h) (Or.inl ⟨by rfl, ?hy20⟩) (by assumption) ?rest20
        case hy20 => (intro w hSw; (try dsimp only at hSw); simp only [List.getElem_toArray, List.getElem_cons_zero, List.getElem_cons_succ]; go_simp; (try with_reducible rfl))
        (try simp only [Act.put, List.getElem_toArray, List.getElem_cons_zero, List.getElem_cons_succ, List.setIfInBounds_toArray, List.set_cons_zero, List.set_cons_succ])
        refine wpAnyH_take (i := 1) (v := ?v21) rfl (by kernel_rfl) (by kernel_rfl) (by kernel_rfl) (fun _ _ _ h => h) (Or.inl ⟨by rfl, ?hy21⟩) (by assumption) ?rest21
        case hy21 => (intro w hSw; (try dsimp only at hSw); simp only [List.getElem_toArray, List.getElem_cons_zero, List.getElem_cons_succ]; go_simp; (try with_reducible rfl))
        (try simp only [Act.put, List.getElem_toArray, List.getElem_cons_zero, List.getElem_cons_succ, List.setIfInBounds_toArray, List.set_cons_zero, List.set_cons_succ])
        refine wpAnyH_take (i := 2) (v := ?v22) rfl (by kernel_rfl) (by kernel_rfl) (by kernel_rfl) (fun _ _ _ h => h) (Or.inl ⟨by rfl, ?hy22⟩) (by assumption) ?rest22
        case hy22 => (intro w hSw; (try dsimp only at hSw); simp only [List.getElem_toArray, List.getElem_cons_zero, List.getElem_cons_succ]; go_simp; (try with_reducible rfl))
        (try simp only [Act.put, List.getElem_toArray, List.getElem_cons_zero, List.getElem_cons_succ, List.setIfInBounds_toArray, List.set_cons_zero, List.set_cons_succ])
        refine wpAnyH_take (i := 3) (v := ?v23) rfl (by kernel_rfl) (by kernel_rfl) (by kernel_rfl) (fun _ _ _ h => h) (Or.inl ⟨by rfl, ?hy23⟩) (by assumption) ?rest23
        case hy23 => (intro w hSw; (try dsimp only at hSw); simp only [List.getElem_toArray, List.getElem_cons_zero, List.getElem_cons_succ]; go_simp; (try with_reducible rfl))
        (try simp only [Act.put, List.getElem_toArray, List.getElem_cons_zero, List.getElem_cons_succ, List.setIfInBounds_toArray, List.set_cons_zero, List.set_cons_succ])
        refine wpAnyH_take (i := 5) (v := ?v24) rfl (by kernel_rfl) (by kernel_rfl) (by kernel_rfl) (fun _ _ _ h => h) (Or.inl ⟨by rfl, ?hy24⟩) (by assumption) ?rest24
        case hy24 => (intro w hSw; (try dsimp only at hSw); simp only [List.getElem_toArray, List.getElem_cons_zero, List.getElem_cons_succ]; go_simp; (try with_reducible rfl))
        (try simp only [Act.put, List.getElem_toArray, List.getElem_cons_zero, List.getElem_cons_succ, List.setIfInBounds_toArray, List.set_cons_zero, List.set_cons_succ])
        refine wpAnyH_ready (rs := [4, 6]) (by kernel_rfl) (by simp) ?_
        refine AllReadyH.cons rfl (fun KK hK => ?_) ?_
        · simp only [List.getElem_toArray, List.getElem_cons_zero, List.getElem_cons_succ]
          have cv := fW.cells.2.2.1
          go_simp
          clear cv
          refine hK.out _ _ ?hS25 (fun hHeld2 => ?rest25)
          case hS25 => exact hHeld
          clear hK KK
          (try clear hHeld)
          have hHeld := hHeld2
          clear hHeld2
          (try simp only [Act.put, List.getElem_toArray, List.getElem_cons_zero, List.getElem_cons_succ, List.setIfInBounds_toArray, List.set_cons_zero, List.set_cons_succ])
          refine wpAnyH_ready (rs := [6]) (by kernel_rfl) (by simp) ?_
          refine AllReadyH.cons rfl (fun KK hK => ?_) ?_
          · simp only [List.getElem_toArray, List.getElem_cons_zero, List.getElem_cons_succ]
            go_simp
            obtain ⟨bb, hbb⟩ : ∃ b, Z.heap.size = b := ⟨_, rfl⟩
            obtain ⟨XB, hW⟩ : ∃ W, Z.alloc (.cells #[.int .i64 (a : Int), .int .i64 k, .int .i64 z, .int .i64 0, .int .i64 t] 36) = W := ⟨_, rfl⟩
            have o1 : Out 0 0 Z XB := by rw [← hW]; exact (Out.refl 0 0 _).alloc _
            have fN : XB.heap[bb]? = some (bo (a : Int) k z 0 t) := by rw [← hW, ← hbb]; exact heap_alloc_new _ _
            replace fW := fW.kept o1 (.inr (Nat.zero_le _))
            replace fR := ownk fR o1 (Nat.zero_le _)
            replace OZ := OZ.trans o1
            (try rw [hW])
            (try rw [hbb])
            clear hW hbb
            refine hK.out _ _ ?hS26 (fun hHeld2 => ?rest26)
            case hS26 => exact ⟨o1.cell hHeld.1 (.inr (Nat.zero_le _)), o1.cell hHeld.2.1 (.inr (Nat.zero_le _)), o1.cell hHeld.2.2.1 (.inr (Nat.zero_le _)), o1.cell hHeld.2.2.2.1 (.inr (Nat.zero_le _)), o1.cell hHeld.2.2.2.2 (.inr (Nat.zero_le _))⟩
            clear o1
            clear hK KK
            (try clear hHeld)
            have hHeld := hHeld2
            clear hHeld2
            (try simp only [Act.put, List.getElem_toArray, List.getElem_cons_zero, List.getElem_cons_succ, List.setIfInBounds_toArray, List.set_cons_zero, List.set_cons_succ])
            refine wpAnyH_ready (rs := [7]) (by kernel_rfl) (by simp) ?_
            refine AllReadyH.cons rfl (fun KK hK => ?_) ?_
            · have hbs : w0.heap.size ≤ XB.heap.size := Nat.le_trans HZ5.out OZ.size
              refine app_stepB (by rfl) _ _ (by rfl) w0.heap.size v l m (by rfl) fR HMl.out bb (by rfl) a k z 0 t fN (by have := HL1.out; have := HMl.out; omega) hbs ?_
              intro g4 cap4 XBA fR2 o1 hgw
              have bE : XBA.heap[Bb]? = XB.heap[Bb]? := hgw.block Bb (by have := OZ.size; have := HB5.out; have := HX5.out; omega) (fun e => (HVb.out Bb e.symm).1 rfl)
              have bE4 : XBA.heap[B4]? = XB.heap[B4]? := hgw.block B4 (by have := OZ.size; have := HB5.out; have := HX5.out; omega) (fun e => (HVb.out B4 e.symm).2 rfl)
              have fW2 := fW.kept o1 (.inl (by have := HB5.out; omega))
              clear fN hbs hgw
              refine hK.out _ _ ?hS27 (fun hHeld2 => ?rest27)
              case hS27 => exact ⟨(World.cell?_of_block bE).trans hHeld.1, (World.cell?_of_block bE).trans hHeld.2.1, (World.cell?_of_block bE).trans hHeld.2.2.1, (World.cell?_of_block bE).trans hHeld.2.2.2.1, (World.cell?_of_block bE).trans hHeld.2.2.2.2⟩
              clear hK KK
              (try clear hHeld)
              have hHeld := hHeld2
              clear hHeld2
              (try simp only [Act.put, List.getElem_toArray, List.getElem_cons_zero, List.getElem_cons_succ, List.setIfInBounds_toArray, List.set_cons_zero, List.set_cons_succ])
              refine wpAnyH_take (i := 8) (v := ?v28) rfl (by kernel_rfl) (by kernel_rfl) (by kernel_rfl) (fun _ _ _ h => h) (Or.inl ⟨by rfl, ?hy28⟩) (by assumption) ?rest28
              case hy28 => (intro w hSw; (try dsimp only at hSw); simp only [List.getElem_toArray, List.getElem_cons_zero, List.getElem_cons_succ]; go_simp; (try with_reducible rfl))
              (try simp only [Act.put, List.getElem_toArray, List.getElem_cons_zero, List.getElem_cons_succ, List.setIfInBounds_toArray, List.set_cons_zero, List.set_cons_succ])
              refine wpAnyH_take (i := 9) (v := ?v29) rfl (by kernel_rfl) (by kernel_rfl) (by kernel_rfl) (fun _ _ _ h => h) (Or.inl ⟨by rfl, ?hy29⟩) (by assumption) ?rest29
              case hy29 => (intro w hSw; (try dsimp only at hSw); simp only [List.getElem_toArray, List.getElem_cons_zero, List.getElem_cons_succ]; go_simp; (try with_reducible rfl))
              (try simp only [Act.put, List.getElem_toArray, List.getElem_cons_zero, List.getElem_cons_succ, List.setIfInBounds_toArray, List.set_cons_zero, List.set_cons_succ])
              refine wpAnyH_ready (rs := [10]) (by kernel_rfl) (by simp) ?_
              refine AllReadyH.cons rfl (fun KK hK => ?_) ?_
              · simp only [List.getElem_toArray, List.getElem_cons_zero, List.getElem_cons_succ]
                have cv := fW2.cells.2.2.1
                have cf := fW2.cells.2.2.2.2 2
                go_simp
                clear cv cf
                obtain ⟨XE, hXE⟩ : ∃ W, XBA.setCell ⟨b, 2, none⟩ (.slice (some ⟨g4, 0, none⟩) (m + 1) cap4) = W := ⟨_, rfl⟩
                have oE : Out b (b + 1) XBA XE := by rw [← hXE]; exact (Out.refl _ _ _).setCell (p := ⟨b, 2, none⟩) (.inl ⟨Nat.le_refl _, Nat.lt_succ_self _⟩) _
                have fW3 : WAt XE b N (s 14) (.slice (some ⟨g4, 0, none⟩) (m + 1) cap4) st2.last := by rw [← hXE]; exact fW2.setV _
                rw [hXE]
                clear hXE
                have fC4 := oE.heap (bE4.trans (OZ.heap HC5.out.1 (.inr (Nat.zero_le _)))) (.inr (by have := HB5.out; have := HX5.out; omega))
                have fK4 := oE.heap (bE.trans (OZ.heap HC5.out.2 (.inr (Nat.zero_le _)))) (.inr (by have := HB5.out; omega))
                have fin : WSt w0 b N lo hi cap s XE st2 (l ++ [(a, (k, z, 0, t))]) := by
                  have hb0 := H0.out.1
                  have hsz := OZ.size
                  have hz5 := HZ5.out
                  exact ⟨hb0, (out_far (HO5.out.trans (OZ.any _ _)) o1 (.inl (Nat.le_refl _))).trans (oE.wide (Nat.le_refl _) (by omega)), ((HS5.out.quiet OZ).kept o1 (.inl (by omega)) (.inl (by omega))).kept oE (.inr (by omega)) (.inl (by omega)), HP.out.1, HP.out.2.1, _, fW3, ownk fR2 oE (by omega)⟩
                refine hK.out _ _ ?hS30 (fun hHeld2 => ?rest30)
                case hS30 => exact ⟨oE.cell hHeld.1 (.inr (by have := HB5.out; omega)), oE.cell hHeld.2.1 (.inr (by have := HB5.out; omega)), oE.cell hHeld.2.2.1 (.inr (by have := HB5.out; omega)), oE.cell hHeld.2.2.2.1 (.inr (by have := HB5.out; omega)), oE.cell hHeld.2.2.2.2 (.inr (by have := HB5.out; omega))⟩
                clear hK KK
                (try clear hHeld)
                have hHeld := hHeld2
                clear hHeld2
                (try simp only [Act.put, List.getElem_toArray, List.getElem_cons_zero, List.getElem_cons_succ, List.setIfInBounds_toArray, List.set_cons_zero, List.set_cons_succ])
                refine wpAnyH_done (by kernel_rfl) ?_ _
                clear hHeld
                obtain ⟨r0, r1, r2, r3, r4⟩ := bo_facts fC4
                obtain ⟨s0, s1, s2, s3, s4⟩ := bo_facts fK4
                have FIN := hid_mk fin
                clear fin fC4 fK4 oE o1 fW fR fR2 fW2 fW3 OZ
                go_wp2
                go_ret
                exact ⟨rfl, FIN.out⟩
              · exact AllReadyH.nil
            · exact AllReadyH.nil
          · exact AllReadyH.nil
        · refine AllReadyH.cons rfl (fun KK hK => ?_) ?_
          · simp only [List.getElem_toArray, List.getElem_cons_zero, List.getElem_cons_succ]
            go_simp
            obtain ⟨bb, hbb⟩ : ∃ b, Z.heap.size = b := ⟨_, rfl⟩
            obtain ⟨XB, hW⟩ : ∃ W, Z.alloc (.cells #[.int .i64 (a : Int), .int .i64 k, .int .i64 z, .int .i64 0, .int .i64 t] 36) = W := ⟨_, rfl⟩
            have o1 : Out 0 0 Z XB := by rw [← hW]; exact (Out.refl 0 0 _).alloc _
            have fN : XB.heap[bb]? = some (bo (a : Int) k z 0 t) := by rw [← hW, ← hbb]; exact heap_alloc_new _ _
            replace fW := fW.kept o1 (.inr (Nat.zero_le _))
            replace fR := ownk fR o1 (Nat.zero_le _)
            replace OZ := OZ.trans o1
            (try rw [hW])
            (try rw [hbb])
            clear hW hbb
            refine hK.out _ _ ?hS31 (fun hHeld2 => ?rest31)
            case hS31 => exact ⟨o1.cell hHeld.1 (.inr (Nat.zero_le _)), o1.cell hHeld.2.1 (.inr (Nat.zero_le _)), o1.cell hHeld.2.2.1 (.inr (Nat.zero_le _)), o1.cell hHeld.2.2.2.1 (.inr (Nat.zero_le _)), o1.cell hHeld.2.2.2.2 (.inr (Nat.zero_le _))⟩
            clear o1
            clear hK KK
            (try clear hHeld)
            have hHeld := hHeld2
            clear hHeld2
            (try simp only [Act.put, List.getElem_toArray, List.getElem_cons_zero, List.getElem_cons_succ, List.setIfInBounds_toArray, List.set_cons_zero, List.set_cons_succ])
            refine wpAnyH_ready (rs := [4]) (by kernel_rfl) (by simp) ?_
            refine AllReadyH.cons rfl (fun KK hK => ?_) ?_
            · simp only [List.getElem_toArray, List.getElem_cons_zero, List.getElem_cons_succ]
              have cv := fW.cells.2.2.1
              go_simp
              clear cv
              refine hK.out _ _ ?hS32 (fun hHeld2 => ?rest32)
              case hS32 => exact hHeld
              clear hK KK
              (try clear hHeld)
              have hHeld := hHeld2
              clear hHeld2
              (try simp only [Act.put, List.getElem_toArray, List.getElem_cons_zero, List.getElem_cons_succ, List.setIfInBounds_toArray, List.set_cons_zero, List.set_cons_succ])
              refine wpAnyH_ready (rs := [7]) (by kernel_rfl) (by simp) ?_
              refine AllReadyH.cons rfl (fun KK hK => ?_) ?_
              · have hbs : w0.heap.size ≤ XB.heap.size := Nat.le_trans HZ5.out OZ.size
                refine app_stepB (by rfl) _ _ (by rfl) w0.heap.size v l m (by rfl) fR HMl.out bb (by rfl) a k z 0 t fN (by have := HL1.out; have := HMl.out; omega) hbs ?_
                intro g4 cap4 XBA fR2 o1 hgw
                have bE : XBA.heap[Bb]? = XB.heap[Bb]? := hgw.block Bb (by have := OZ.size; have := HB5.out; have := HX5.out; omega) (fun e => (HVb.out Bb e.symm).1 rfl)
                have bE4 : XBA.heap[B4]? = XB.heap[B4]? := hgw.block B4 (by have := OZ.size; have := HB5.out; have := HX5.out; omega) (fun e => (HVb.out B4 e.symm).2 rfl)
                have fW2 := fW.kept o1 (.inl (by have := HB5.out; omega))
                clear fN hbs hgw
                refine hK.out _ _ ?hS33 (fun hHeld2 => ?rest33)
                case hS33 => exact ⟨(World.cell?_of_block bE).trans hHeld.1, (World.cell?_of_block bE).trans hHeld.2.1, (World.cell?_of_block bE).trans hHeld.2.2.1, (World.cell?_of_block bE).trans hHeld.2.2.2.1, (World.cell?_of_block bE).trans hHeld.2.2.2.2⟩
                clear hK KK
                (try clear hHeld)
                have hHeld := hHeld2
                clear hHeld2
                (try simp only [Act.put, List.getElem_toArray, List.getElem_cons_zero, List.getElem_cons_succ, List.setIfInBounds_toArray, List.set_cons_zero, List.set_cons_succ])
                refine wpAnyH_take (i := 8) (v := ?v34) rfl (by kernel_rfl) (by kernel_rfl) (by kernel_rfl) (fun _ _ _ h => h) (Or.inl ⟨by rfl, ?hy34⟩) (by assumption) ?rest34
                case hy34 => (intro w hSw; (try dsimp only at hSw); simp only [List.getElem_toArray, List.getElem_cons_zero, List.getElem_cons_succ]; go_simp; (try with_reducible rfl))
                (try simp only [Act.put, List.getElem_toArray, List.getElem_cons_zero, List.getElem_cons_succ, List.setIfInBounds_toArray, List.set_cons_zero, List.set_cons_succ])
                refine wpAnyH_take (i := 9) (v := ?v35) rfl (by kernel_rfl) (by kernel_rfl) (by kernel_rfl) (fun _ _ _ h => h) (Or.inl ⟨by rfl, ?hy35⟩) (by assumption) ?rest35
                case hy35 => (intro w hSw; (try dsimp only at hSw); simp only [List.getElem_toArray, List.getElem_cons_zero, List.getElem_cons_succ]; go_simp; (try with_reducible rfl))
                (try simp only [Act.put, List.getElem_toArray, List.getElem_cons_zero, List.getElem_cons_succ, List.setIfInBounds_toArray, List.set_cons_zero, List.set_cons_succ])
                refine wpAnyH_ready (rs := [10]) (by kernel_rfl) (by simp) ?_
                refine AllReadyH.cons rfl (fun KK hK => ?_) ?_
                · simp only [List.getElem_toArray, List.getElem_cons_zero, List.getElem_cons_succ]
                  have cv := fW2.cells.2.2.1
                  have cf := fW2.cells.2.2.2.2 2
                  go_simp
                  clear cv cf
                  obtain ⟨XE, hXE⟩ : ∃ W, XBA.setCell ⟨b, 2, none⟩ (.slice (some ⟨g4, 0, none⟩) (m + 1) cap4) = W := ⟨_, rfl⟩
                  have oE : Out b (b + 1) XBA XE := by rw [← hXE]; exact (Out.refl _ _ _).setCell (p := ⟨b, 2, none⟩) (.inl ⟨Nat.le_refl _, Nat.lt_succ_self _⟩) _
                  have fW3 : WAt XE b N (s 14) (.slice (some ⟨g4, 0, none⟩) (m + 1) cap4) st2.last := by rw [← hXE]; exact fW2.setV _
                  rw [hXE]
                  clear hXE
                  have fC4 := oE.heap (bE4.trans (OZ.heap HC5.out.1 (.inr (Nat.zero_le _)))) (.inr (by have := HB5.out; have := HX5.out; omega))
                  have fK4 := oE.heap (bE.trans (OZ.heap HC5.out.2 (.inr (Nat.zero_le _)))) (.inr (by have := HB5.out; omega))
                  have fin : WSt w0 b N lo hi cap s XE st2 (l ++ [(a, (k, z, 0, t))]) := by
                    have hb0 := H0.out.1
                    have hsz := OZ.size
                    have hz5 := HZ5.out
                    exact ⟨hb0, (out_far (HO5.out.trans (OZ.any _ _)) o1 (.inl (Nat.le_refl _))).trans (oE.wide (Nat.le_refl _) (by omega)), ((HS5.out.quiet OZ).kept o1 (.inl (by omega)) (.inl (by omega))).kept oE (.inr (by omega)) (.inl (by omega)), HP.out.1, HP.out.2.1, _, fW3, ownk fR2 oE (by omega)⟩
                  refine hK.out _ _ ?hS36 (fun hHeld2 => ?rest36)
                  case hS36 => exact ⟨oE.cell hHeld.1 (.inr (by have := HB5.out; omega)), oE.cell hHeld.2.1 (.inr (by have := HB5.out; omega)), oE.cell hHeld.2.2.1 (.inr (by have := HB5.out; omega)), oE.cell hHeld.2.2.2.1 (.inr (by have := HB5.out; omega)), oE.cell hHeld.2.2.2.2 (.inr (by have := HB5.out; omega))⟩
                  clear hK KK
                  (try clear hHeld)
                  have hHeld := hHeld2
                  clear hHeld2
                  (try simp only [Act.put, List.getElem_toArray, List.getElem_cons_zero, List.getElem_cons_succ, List.setIfInBounds_toArray, List.set_cons_zero, List.set_cons_succ])
                  refine wpAnyH_done (by kernel_rfl) ?_ _
                  clear hHeld
                  obtain ⟨r0, r1, r2, r3, r4⟩ := bo_facts fC4
                  obtain ⟨s0, s1, s2, s3, s4⟩ := bo_facts fK4
                  have FIN := hid_mk fin
                  clear fin fC4 fK4 oE o1 fW fR fR2 fW2 fW3 OZ
                  go_wp2
                  go_ret
                  exact ⟨rfl, FIN.out⟩
                · exact AllReadyH.nil
              · exact AllReadyH.nil
            · exact AllReadyH.nil
          · exact AllReadyH.nil
end Go.Proofs.YtjbbkeoolodeaabDoor
namespace Go.Proofs.YtjbbkeoolodeaabDoor
open Go.RowKit
set_option linter.unusedVariables false
set_option linter.unusedSimpArgs false

def atB (l : List (Nat × Blk)) (j : Nat) : Nat × Blk := (l[j]?).getD (0, noB)
def idxF (m : Nat) (x : Int) : Nat := (wth x (m : Int)).toNat
/-- the places of the objects with these numbers -/
def psF (l : List (Nat × Blk)) (L : List Int) : List Int := if l.length = 0 then [] else L.map fun x => ((atB l (idxF l.length x)).1 : Int)
/-- the j-th is among the first i that are named -/
def stF (m : Nat) (L : List Int) (i j : Nat) : Bool := (L.take i).any fun x => idxF m x == j
theorem idx_lt {m : Nat} (h : 0 < m) (x : Int) : idxF m x < m ∧ wth x (m : Int) = (idxF m x : Int) := by
  have h1 := wth_ge x (m : Int) (by omega)
  have h2 := wth_lt x (m : Int) (by omega)
  unfold idxF
  omega
theorem atB_mem {l : List (Nat × Blk)} {j : Nat} (h : j < l.length) : atB l j ∈ l ∧ l[j]? = some (atB l j) := by
  have e : l[j]? = some l[j] := List.getElem?_eq_getElem h
  unfold atB
  rw [e]
  exact ⟨List.getElem_mem h, rfl⟩
theorem atB_inj {l : List (Nat × Blk)} (hn : (l.map Prod.fst).Nodup) {i j : Nat} (hi : i < l.length) (hj : j < l.length) (h : (atB l i).1 = (atB l j).1) : i = j := by
  have e1 : (l.map Prod.fst)[i]? = some (atB l i).1 := by rw [List.getElem?_map, (atB_mem hi).2]; rfl
  have e2 : (l.map Prod.fst)[j]? = some (atB l j).1 := by rw [List.getElem?_map, (atB_mem hj).2]; rfl
  exact (List.getElem?_inj (by simpa using hi) hn).1 (by rw [e1, e2, h])
theorem st_zero (m : Nat) (L : List Int) (j : Nat) : stF m L 0 j = false := by unfold stF; simp
theorem st_succ {m : Nat} {L : List Int} {i : Nat} {x : Int} (h : L[i]? = some x) (j : Nat) : stF m L (i + 1) j = (stF m L i j || idxF m x == j) := by
  unfold stF
  rw [List.take_add_one, h, List.any_append]
  simp
theorem ps_succ {l : List (Nat × Blk)} {L : List Int} {i : Nat} {x : Int} (h0 : 0 < l.length) (h : L[i]? = some x) : (psF l L).take (i + 1) = (psF l L).take i ++ [((atB l (idxF l.length x)).1 : Int)] := by
  unfold psF
  rw [if_neg (by omega), List.take_add_one, List.getElem?_map, h]
  rfl
theorem ps_len {l : List (Nat × Blk)} {L : List Int} (h0 : 0 < l.length) : (psF l L).length = L.length := by unfold psF; rw [if_neg (by omega), List.length_map]
/-- those of the first i that stay -/
def lfT (l : List (Nat × Blk)) (P : Nat → Bool) : Nat → List (Nat × Blk)
  | 0 => []
  | i + 1 => if P i then lfT l P i ++ [atB l i] else lfT l P i
theorem lf_len (l : List (Nat × Blk)) (P : Nat → Bool) : ∀ i, (lfT l P i).length ≤ i
  | 0 => Nat.le_refl _
  | i + 1 => by
    have := lf_len l P i
    unfold lfT
    split
    · simp; omega
    · omega
theorem lf_take {l : List (Nat × Blk)} {P : Nat → Bool} {f : Nat × Blk → Bool} (h : ∀ j, j < l.length → P j = f (atB l j)) : ∀ i, i ≤ l.length → lfT l P i = (l.take i).filter f
  | 0, _ => by simp [lfT]
  | i + 1, hi => by
    have ih := lf_take h i (by omega)
    have e := (atB_mem (l := l) (j := i) (by omega)).2
    unfold lfT
    rw [List.take_add_one, e, List.filter_append, ih, h i (by omega)]
    cases hf : f (atB l i) with
    | true => simp [hf]
    | false => simp [hf]
theorem st_kp {l : List (Nat × Blk)} {L : List Int} (hn : (l.map Prod.fst).Nodup) {j : Nat} (hj : j < l.length) : stF l.length L L.length j = kpS (psF l L) (atB l j).1 := by
  unfold stF kpS psF
  rw [if_neg (by omega), List.take_length, Bool.eq_iff_iff, List.any_eq_true, List.contains_iff_mem, List.mem_map]
  constructor
  · rintro ⟨x, hx, he⟩
    have he' : idxF l.length x = j := by simpa using he
    exact ⟨x, hx, by rw [he']⟩
  · rintro ⟨x, hx, he⟩
    refine ⟨x, hx, ?_⟩
    have := atB_inj hn (idx_lt (by omega) x).1 hj (by omega)
    simpa using this
theorem lf_all {l : List (Nat × Blk)} {L : List Int} (hn : (l.map Prod.fst).Nodup) : lfT l (stF l.length L L.length) l.length = l.filter fun q => kpS (psF l L) q.1 := by
  rw [lf_take (f := fun q => kpS (psF l L) q.1) (fun j hj => st_kp hn hj) l.length (Nat.le_refl _), List.take_length]
theorem ps_told {st : Sp} {l : List (Nat × Blk)} {L : List Int} (h : ObL st l) : ∀ a ∈ psF l L, (obM st a).isSome = true := by
  intro a ha
  unfold psF at ha
  by_cases h0 : l.length = 0
  · rw [if_pos h0] at ha; cases ha
  · rw [if_neg h0] at ha
    obtain ⟨x, _, rfl⟩ := List.mem_map.1 ha
    obtain ⟨e1, e2⟩ := h.2.1 _ (atB_mem (idx_lt (by omega) x).1).1
    unfold obM
    rw [show (((atB l (idxF l.length x)).1 : Nat) : Int).toNat = (atB l (idxF l.length x)).1 from by omega, e1, if_pos ⟨by omega, e2⟩]
    rfl
/-- what a keeping leaves -/
def kpP (N : Nat) (st : Sp) (l : List (Nat × Blk)) (L : List Int) : Sp × List (Nat × Blk) := (keepSp N st (psF l L), l.filter fun q => kpS (psF l L) q.1)
/-- a list of ints among the arguments: below b -/
def SlI (w : World) (b : Nat) (p : Option Addr) (L : List Int) : Prop := (∀ x ∈ L, -9223372036854775808 ≤ x ∧ x ≤ 9223372036854775807) ∧ (L = [] ∨ ∃ g off, p = some ⟨g, off, none⟩ ∧ g < b ∧ ∀ j x, L[j]? = some x → w.cell? ⟨g, off + j, none⟩ = some (.int .i64 x))
theorem SlI.kept {w w' : World} {b x y : Nat} {p : Option Addr} {L : List Int} (h : SlI w b p L) (o : Out x y w w') (hx : b ≤ x ∨ y = 0) : SlI w' b p L := by
  refine ⟨h.1, ?_⟩
  rcases h.2 with h | ⟨g, off, h1, h2, h3⟩
  · exact .inl h
  · exact .inr ⟨g, off, h1, h2, fun j x hj => o.cell (h3 j x hj) (by omega)⟩
end Go.Proofs.YtjbbkeoolodeaabDoor
