import Derived.Test.YtjbbkeoolodeaaaGreatDoorG31
import Derived.Test.YtjbbkeoolodeaaaGreatDoorG06
import Derived.Test.YtjbbkeoolodeaaaGreatDoorG20
import Derived.Test.YtjbbkeoolodeaaaGreatDoorG23
import Derived.Test.YtjbbkeoolodeaaaGreatDoorG19
import Derived.Test.YtjbbkeoolodeaaaGreatDoorG09
namespace Go.Proofs.YtjbbkeoolodeaaaGreatDoor
open Go.RowKit
set_option linter.unusedVariables false
set_option linter.unusedSimpArgs false

theorem infoF8 : (Tryz.prog.info? 97).map (·.size) = some 2 := by kernel_rfl
theorem retF8 {fn : Func} {p : Tmp} (hr : fn.results = #[.cell p 97]) {a : Act} {w : World} {g : Nat} {x y : Int} {post : Ending → World → Prop} (hp : a.tmps.getD p undef = .pointer (some ⟨g, 0, none⟩))
    (hd : a.defers = []) (b : w.heap[g]? = some (.cells #[.int .i64 x, .int .i64 y] 97 (0, 0))) (h : post (.returned (fltV x y)) w) : bodyPost Tryz.prog fn post Exit.ret a w :=
  bodyPost_ret (v := fltV x y) (results_cell_row hr a.tmps w g 97 _ (0, 0) _ hp b Tryz.underlying97 rfl infoF8) hd h
theorem fl_set {w : World} {g : Nat} {T : TypeId} {u v : Value} (h : w.heap[g]? = some (.cells #[u, v] T (0, 0))) (x y : Value) : ((w.setCell ⟨g, 0, none⟩ x).setCell ⟨g, 1, none⟩ y).heap[g]? = some (.cells #[x, y] T (0, 0)) := by
  simp [World.setCell, Array.getElem?_modify, h]
section
variable {w : World} {lo hi n cw co : Nat} {s : Nat → Nat} {st : Sp}
set_option maxRecDepth 100000 in
set_option maxHeartbeats 4000000 in
theorem refCheck_none (h : RfAt w lo hi s n cw co st) {a : Int} (hno : ∀ k : Nat, a = (k : Int) → k < 64 * n → hasB (st.O k) = false) : Calls Tryz.prog 57 #[.pointer (some ⟨s 0, 0, none⟩), .int .i64 a] w fun e w' => e = .returned (fltV 22 0) ∧ Out 0 0 w w' := by
  have o1 : Out 0 0 w (w.alloc (.cells #[.int .i64 0, .int .i64 0] 97)) := (Out.refl 0 0 w).alloc _
  have f1 : (w.alloc (.cells #[.int .i64 0, .int .i64 0] 97)).heap[w.heap.size]? = some (.cells #[.int .i64 0, .int .i64 0] 97 (0, 0)) := heap_alloc_new _ _
  have HBk := hid_mk (refBlock_none (h.quiet o1) hno)
  have H1 := hid_mk (And.intro o1 f1)
  clear h hno o1 f1
  go_enter Tryz.func57, Tryz.ntmps57
  go_wp2_with fail
  refine HBk.out.mono ?_
  rintro e w1 ⟨rfl, ho⟩
  have fF := ho.heap H1.out.2 (.inr (Nat.zero_le _))
  have oB : Out 0 0 w1 (w1.alloc (.cells #[.int .i64 0, .int .i64 0, .int .i64 0, .int .i64 0, .int .i64 0] 92)) := (Out.refl 0 0 w1).alloc _
  have fB := oB.heap fF (.inr (Nat.zero_le _))
  obtain ⟨F, hF⟩ : ∃ F, w.heap.size = F := ⟨_, rfl⟩
  rw [hF] at fF fB ⊢
  have HFF := hid_mk fB
  have HO := hid_mk ((H1.out.1.trans ho).trans oB)
  have HSz : Hid (w.heap.size = F) := hF
  obtain ⟨e0, e1, e2, e3⟩ := flt_facts fB
  clear fF fB oB ho hF
  go_wp2
  refine retF8 (g := F) Tryz.results57 rfl rfl (fl_set HFF.out _ _) ⟨rfl, ?_⟩
  exact out_far HO.out (((Out.refl F (F + 1) _).setCell (p := ⟨F, 0, none⟩) (.inl ⟨Nat.le_refl _, Nat.lt_succ_self _⟩) _).setCell (p := ⟨F, 1, none⟩) (.inl ⟨Nat.le_refl _, Nat.lt_succ_self _⟩) _) (.inl (by have := HSz.out; omega))
set_option maxRecDepth 100000 in
set_option maxHeartbeats 8000000 in
theorem refCheck_some (h : RfAt w lo hi s n cw co st) {a : Nat} (ha : a < 64 * n) (hb : hasB (st.O a) = true) : Calls Tryz.prog 57 #[.pointer (some ⟨s 0, 0, none⟩), .int .i64 (a : Int)] w fun e w' => e = .returned (if st.W a = makeV a (st.O a).1 (st.O a).2.1 then fltV 0 0 else fltV 21 a) ∧ Out 0 0 w w' := by
  have h2 := h.n2
  have o1 : Out 0 0 w (w.alloc (.cells #[.int .i64 0, .int .i64 0] 97)) := (Out.refl 0 0 w).alloc _
  have f1 : (w.alloc (.cells #[.int .i64 0, .int .i64 0] 97)).heap[w.heap.size]? = some (.cells #[.int .i64 0, .int .i64 0] 97 (0, 0)) := heap_alloc_new _ _
  obtain ⟨k, z, x, t, hO⟩ : ∃ k z x t, st.O a = (k, z, x, t) := ⟨_, _, _, _, rfl⟩
  have HBk := hid_mk (refBlock_some (h.quiet o1) ha hb hO)
  rw [hO]
  dsimp only
  obtain ⟨y, hy⟩ : ∃ y, st.W a = y := ⟨_, rfl⟩
  obtain ⟨v, hv⟩ : ∃ v, makeV (a : Int) k z = v := ⟨_, rfl⟩
  have HMk := hid_mk (fun w => refMake_any (a : Int) k z w)
  rw [hv] at HMk ⊢
  rw [hy]
  obtain ⟨M, hM⟩ : ∃ M, 64 * n = M := ⟨_, rfl⟩
  have a0 : (0 : Int) ≤ (a : Int) := by omega
  have a1 : (a : Int) < (M : Int) := by omega
  have a2 : (M : Int) ≤ 262144 := by omega
  have H1 := hid_mk (And.intro o1 f1)
  have HR := hid_mk (And.intro h (And.intro hM (And.intro hy ha)))
  clear h hb o1 f1 hO hy hv hM ha h2
  go_enter Tryz.func57, Tryz.ntmps57
  go_wp2_with fail
  refine HBk.out.mono ?_
  rintro e w1 ⟨rfl, ho⟩
  have fF := ho.heap H1.out.2 (.inr (Nat.zero_le _))
  have HO1 := hid_mk (And.intro (H1.out.1.trans ho) fF)
  clear ho fF HBk
  go_wp2_with fail
  obtain ⟨W2, hW2⟩ : ∃ W, w1.alloc (.cells #[.int .i64 (a : Int), .int .i64 k, .int .i64 z, .int .i64 x, .int .i64 t] 92) = W := ⟨_, rfl⟩
  obtain ⟨B, hB⟩ : ∃ B, w1.heap.size = B := ⟨_, rfl⟩
  obtain ⟨F, hF⟩ : ∃ F, w.heap.size = F := ⟨_, rfl⟩
  have o2 : Out 0 0 w1 W2 := by rw [← hW2]; exact (Out.refl 0 0 w1).alloc _
  have fB : W2.heap[B]? = some (.cells #[.int .i64 (a : Int), .int .i64 k, .int .i64 z, .int .i64 x, .int .i64 t] 92 (0, 0)) := by rw [← hW2, ← hB]; exact heap_alloc_new _ _
  have HO2 := hid_mk (HO1.out.1.trans o2)
  have HF2 : Hid (W2.heap[F]? = some (.cells #[.int .i64 0, .int .i64 0] 97 (0, 0)) ∧ w.heap.size = F) := ⟨by rw [← hF]; exact o2.heap HO1.out.2 (.inr (Nat.zero_le _)), hF⟩
  have h2' := HR.out.1.quiet HO2.out
  have c0 := h2'.cells.1
  rw [HR.out.2.1] at c0
  have d0 := h2'.rw.cell (i := a) HR.out.2.2.2
  rw [HR.out.2.2.1] at d0
  have b1 : W2.cell? ⟨B, 1, none⟩ = some (.int .i64 k) := by simp [World.cell?, fB]
  have b2 : W2.cell? ⟨B, 2, none⟩ = some (.int .i64 z) := by simp [World.cell?, fB]
  rw [hW2, hB]
  (try rw [hF])
  clear hW2 hB hF o2 fB h2'
  refine wp_region_held_drew (S := fun w' => w'.cell? ⟨s 0, 0, none⟩ = some (.slice (some ⟨s 1, 0, none⟩) M cw) ∧ w'.cell? ⟨s 1, a, none⟩ = some (.int .i64 y) ∧ w'.cell? ⟨B, 1, none⟩ = some (.int .i64 k) ∧ w'.cell? ⟨B, 2, none⟩ = some (.int .i64 z)) (by kernel_rfl) ?hS1 (fun hHeld => ?rest1)
  case hS1 => exact ⟨c0, d0, b1, b2⟩
  obtain ⟨Z3, hZ⟩ : ∃ Z, W2.drew = Z := ⟨_, rfl⟩
  have OZ3 : Out 0 0 W2 Z3 := by rw [← hZ]; exact (Out.refl 0 0 W2).drew
  rw [hZ] at hHeld ⊢
  clear hZ
  refine wpAnyH_take (i := 0) (v := ?v2) rfl (by kernel_rfl) (by kernel_rfl) (by kernel_rfl) (fun _ _ _ h => h) (Or.inl ⟨by rfl, ?hy2⟩) (by assumption) ?rest2
  case hy2 => (intro w hSw; (try dsimp only at hSw); simp only [List.getElem_toArray, List.getElem_cons_zero, List.getElem_cons_succ]; go_simp; (try with_reducible rfl))
  (try simp only [Act.put, List.getElem_toArray, List.getElem_cons_zero, List.getElem_cons_succ, List.setIfInBounds_toArray, List.set_cons_zero, List.set_cons_succ])
  refine wpAnyH_take (i := 1) (v := ?v3) rfl (by kernel_rfl) (by kernel_rfl) (by kernel_rfl) (fun _ _ _ h => h) (Or.inl ⟨by rfl, ?hy3⟩) (by assumption) ?rest3
  case hy3 => (intro w hSw; (try dsimp only at hSw); simp only [List.getElem_toArray, List.getElem_cons_zero, List.getElem_cons_succ]; go_simp; (try with_reducible rfl))
  (try simp only [Act.put, List.getElem_toArray, List.getElem_cons_zero, List.getElem_cons_succ, List.setIfInBounds_toArray, List.set_cons_zero, List.set_cons_succ])
  refine wpAnyH_take (i := 2) (v := ?v4) rfl (by kernel_rfl) (by kernel_rfl) (by kernel_rfl) (fun _ _ _ h => h) (Or.inl ⟨by rfl, ?hy4⟩) (by assumption) ?rest4
  case hy4 => (intro w hSw; (try dsimp only at hSw); simp only [List.getElem_toArray, List.getElem_cons_zero, List.getElem_cons_succ]; go_simp; (try with_reducible rfl))
  (try simp only [Act.put, List.getElem_toArray, List.getElem_cons_zero, List.getElem_cons_succ, List.setIfInBounds_toArray, List.set_cons_zero, List.set_cons_succ])
  refine wpAnyH_take (i := 3) (v := ?v5) rfl (by kernel_rfl) (by kernel_rfl) (by kernel_rfl) (fun _ _ _ h => h) (Or.inl ⟨by rfl, ?hy5⟩) (by assumption) ?rest5
  case hy5 => (intro w hSw; (try dsimp only at hSw); simp only [List.getElem_toArray, List.getElem_cons_zero, List.getElem_cons_succ]; go_simp; (try with_reducible rfl))
  (try simp only [Act.put, List.getElem_toArray, List.getElem_cons_zero, List.getElem_cons_succ, List.setIfInBounds_toArray, List.set_cons_zero, List.set_cons_succ])
  refine wpAnyH_take (i := 4) (v := ?v6) rfl (by kernel_rfl) (by kernel_rfl) (by kernel_rfl) (fun _ _ _ h => h) (Or.inl ⟨by rfl, ?hy6⟩) (by assumption) ?rest6
  case hy6 => (intro w hSw; (try dsimp only at hSw); simp only [List.getElem_toArray, List.getElem_cons_zero, List.getElem_cons_succ]; go_simp; (try with_reducible rfl))
  (try simp only [Act.put, List.getElem_toArray, List.getElem_cons_zero, List.getElem_cons_succ, List.setIfInBounds_toArray, List.set_cons_zero, List.set_cons_succ])
  refine wpAnyH_take (i := 5) (v := ?v7) rfl (by kernel_rfl) (by kernel_rfl) (by kernel_rfl) (fun _ _ _ h => h) (Or.inl ⟨by rfl, ?hy7⟩) (by assumption) ?rest7
  case hy7 => (intro w hSw; (try dsimp only at hSw); simp only [List.getElem_toArray, List.getElem_cons_zero, List.getElem_cons_succ]; go_simp; (try with_reducible rfl))
  (try simp only [Act.put, List.getElem_toArray, List.getElem_cons_zero, List.getElem_cons_succ, List.setIfInBounds_toArray, List.set_cons_zero, List.set_cons_succ])
  refine wpAnyH_take (i := 6) (v := ?v8) rfl (by kernel_rfl) (by kernel_rfl) (by kernel_rfl) (fun _ _ _ h => h) (Or.inl ⟨by rfl, ?hy8⟩) (by assumption) ?rest8
  case hy8 => (intro w hSw; (try dsimp only at hSw); simp only [List.getElem_toArray, List.getElem_cons_zero, List.getElem_cons_succ]; go_simp; (try with_reducible rfl))
  (try simp only [Act.put, List.getElem_toArray, List.getElem_cons_zero, List.getElem_cons_succ, List.setIfInBounds_toArray, List.set_cons_zero, List.set_cons_succ])
  refine wpAnyH_take (i := 7) (v := ?v9) rfl (by kernel_rfl) (by kernel_rfl) (by kernel_rfl) (fun _ _ _ h => h) (Or.inl ⟨by rfl, ?hy9⟩) (by assumption) ?rest9
  case hy9 => (intro w hSw; (try dsimp only at hSw); simp only [List.getElem_toArray, List.getElem_cons_zero, List.getElem_cons_succ]; go_simp; (try with_reducible rfl))
  (try simp only [Act.put, List.getElem_toArray, List.getElem_cons_zero, List.getElem_cons_succ, List.setIfInBounds_toArray, List.set_cons_zero, List.set_cons_succ])
  refine wpAnyH_take (i := 8) (v := ?v10) rfl (by kernel_rfl) (by kernel_rfl) (by kernel_rfl) (fun _ _ _ h => h) (Or.inl ⟨by rfl, ?hy10⟩) (by assumption) ?rest10
  case hy10 => (intro w hSw; (try dsimp only at hSw); simp only [List.getElem_toArray, List.getElem_cons_zero, List.getElem_cons_succ]; go_simp; (try with_reducible rfl))
  (try simp only [Act.put, List.getElem_toArray, List.getElem_cons_zero, List.getElem_cons_succ, List.setIfInBounds_toArray, List.set_cons_zero, List.set_cons_succ])
  refine wpAnyH_take (i := 9) (v := ?v11) rfl (by kernel_rfl) (by kernel_rfl) (by kernel_rfl) (fun _ _ _ h => h) (Or.inl ⟨by rfl, ?hy11⟩) (by assumption) ?rest11
  case hy11 => (intro w hSw; (try dsimp only at hSw); simp only [List.getElem_toArray, List.getElem_cons_zero, List.getElem_cons_succ]; go_simp; (try with_reducible rfl))
  (try simp only [Act.put, List.getElem_toArray, List.getElem_cons_zero, List.getElem_cons_succ, List.setIfInBounds_toArray, List.set_cons_zero, List.set_cons_succ])
  refine wpAnyH_take (i := 10) (v := ?v12) rfl (by kernel_rfl) (by kernel_rfl) (by kernel_rfl) (fun _ _ _ h => h) (Or.inl ⟨by rfl, ?hy12⟩) (by assumption) ?rest12
  case hy12 => (intro w hSw; (try dsimp only at hSw); simp only [List.getElem_toArray, List.getElem_cons_zero, List.getElem_cons_succ]; go_simp; (try with_reducible rfl))
  (try simp only [Act.put, List.getElem_toArray, List.getElem_cons_zero, List.getElem_cons_succ, List.setIfInBounds_toArray, List.set_cons_zero, List.set_cons_succ])
  refine wpAnyH_take (i := 11) (v := ?v13) rfl (by kernel_rfl) (by kernel_rfl) (by kernel_rfl) (fun _ _ _ h => h) (Or.inl ⟨by rfl, ?hy13⟩) (by assumption) ?rest13
  case hy13 => (intro w hSw; (try dsimp only at hSw); simp only [List.getElem_toArray, List.getElem_cons_zero, List.getElem_cons_succ]; go_simp; (try with_reducible rfl))
  (try simp only [Act.put, List.getElem_toArray, List.getElem_cons_zero, List.getElem_cons_succ, List.setIfInBounds_toArray, List.set_cons_zero, List.set_cons_succ])
  refine wpAnyH_ready (rs := [12]) (by kernel_rfl) (by simp) ?_
  refine AllReadyH.cons rfl (fun KK hK => ?_) AllReadyH.nil
  simp only [List.getElem_toArray, List.getElem_cons_zero, List.getElem_cons_succ]
  go_simp
  refine calls_same (HMk.out _) ?_
  refine hK.out _ _ ?hS14 (fun hHeld2 => ?rest14)
  case hS14 => exact hHeld
  clear hK KK
  (try clear hHeld)
  have hHeld := hHeld2
  clear hHeld2
  (try simp only [Act.put, List.getElem_toArray, List.getElem_cons_zero, List.getElem_cons_succ, List.setIfInBounds_toArray, List.set_cons_zero, List.set_cons_succ])
  refine wpAnyH_take (i := 13) (v := ?v15) rfl (by kernel_rfl) (by kernel_rfl) (by kernel_rfl) (fun _ _ _ h => h) (Or.inl ⟨by rfl, ?hy15⟩) (by assumption) ?rest15
  case hy15 => (intro w hSw; (try dsimp only at hSw); simp only [List.getElem_toArray, List.getElem_cons_zero, List.getElem_cons_succ]; go_simp; (try with_reducible rfl))
  (try simp only [Act.put, List.getElem_toArray, List.getElem_cons_zero, List.getElem_cons_succ, List.setIfInBounds_toArray, List.set_cons_zero, List.set_cons_succ])
  refine wpAnyH_done (by kernel_rfl) ?_ _
  clear hHeld
  have fF := OZ3.heap HF2.out.1 (.inr (Nat.zero_le _))
  obtain ⟨e0, e1, e2, e3⟩ := flt_facts fF
  have HFF := hid_mk fF
  have HO3 := hid_mk (HO2.out.trans OZ3)
  clear fF OZ3 c0 d0 b1 b2
  by_cases hyv : y = v
  · have hyb : (y != v) = false := by simp [hyv]
    go_wp2
    refine retF8 (g := F) Tryz.results57 rfl rfl (fl_set HFF.out _ _) ⟨rfl, ?_⟩
    exact out_far HO3.out (((Out.refl F (F + 1) _).setCell (p := ⟨F, 0, none⟩) (.inl ⟨Nat.le_refl _, Nat.lt_succ_self _⟩) _).setCell (p := ⟨F, 1, none⟩) (.inl ⟨Nat.le_refl _, Nat.lt_succ_self _⟩) _) (.inl (by have := HF2.out.2; omega))
  · have hyb : (y != v) = true := by simpa using hyv
    go_wp2
    refine retF8 (g := F) Tryz.results57 rfl rfl (fl_set HFF.out _ _) ⟨rfl, ?_⟩
    exact out_far HO3.out (((Out.refl F (F + 1) _).setCell (p := ⟨F, 0, none⟩) (.inl ⟨Nat.le_refl _, Nat.lt_succ_self _⟩) _).setCell (p := ⟨F, 1, none⟩) (.inl ⟨Nat.le_refl _, Nat.lt_succ_self _⟩) _) (.inl (by have := HF2.out.2; omega))
end
end Go.Proofs.YtjbbkeoolodeaaaGreatDoor
namespace Go.Proofs.YtjbbkeoolodeaaaGreatDoor
open Go.RowKit
set_option linter.unusedVariables false
set_option linter.unusedSimpArgs false

section
variable {w : World} {lo hi n cw co : Nat} {s : Nat → Nat} {st : Sp}
theorem refCheck_any (h : RfAt w lo hi s n cw co st) (hI : Inv n st) (a : Int) : Calls Tryz.prog 57 #[.pointer (some ⟨s 0, 0, none⟩), .int .i64 a] w fun e w' => e = .returned (fltV (chkE (rawOf n st) a) (chkA (rawOf n st) a)) ∧ Out 0 0 w w' := by
  by_cases hb : 0 ≤ a ∧ hasB (st.O a.toNat) = true
  · obtain ⟨k, rfl⟩ : ∃ k : Nat, a = (k : Int) := ⟨a.toNat, by omega⟩
    have e : ((k : Nat) : Int).toNat = k := by omega
    rw [e] at hb
    have hm : (rawOf n st).M (k : Int) = some (st.O k) := by
      show obM st (k : Int) = _
      unfold obM
      rw [e, if_pos hb]
    refine (refCheck_some h (hI.objs k hb.2).1 hb.2).mono ?_
    rintro e1 w' ⟨rfl, ho⟩
    refine ⟨?_, ho⟩
    unfold chkE chkA
    rw [hm, e]
    show Ending.returned (if st.W k = _ then _ else _) = .returned (fltV (if st.W k = makeV k (st.O k).1 (st.O k).2.1 then 0 else 21) (if st.W k = makeV k (st.O k).1 (st.O k).2.1 then 0 else k))
    split <;> rfl
  · have hm : (rawOf n st).M a = none := by
      show obM st a = _
      unfold obM
      rw [if_neg hb]
    refine (refCheck_none h fun k e hk => ?_).mono ?_
    · cases hh : hasB (st.O k) with
      | false => rfl
      | true => exact absurd ⟨by omega, by rw [e, show ((k : Nat) : Int).toNat = k from by omega]; exact hh⟩ hb
    · rintro e1 w' ⟨rfl, ho⟩
      refine ⟨?_, ho⟩
      unfold chkE chkA
      rw [hm]
end
end Go.Proofs.YtjbbkeoolodeaaaGreatDoor
namespace Go.Proofs.YtjbbkeoolodeaaaGreatDoor
open Go.RowKit
set_option linter.unusedVariables false
set_option linter.unusedSimpArgs false

end Go.Proofs.YtjbbkeoolodeaaaGreatDoor
namespace Go.Proofs.YtjbbkeoolodeaaaGreatDoor
open Go.RowKit
attribute [local go_sem] Oper.semAt_some
set_option linter.unusedVariables false
set_option linter.unusedSimpArgs false

/-- the header of the object at k is not its header -/
def hdBad (r : Raw) (k : Nat) : Bool := r.P k && (match r.M (k : Int) with | some b => !(r.W k == makeV k b.1 b.2.1) | none => false)
theorem results_cell {fn : Func} {p : Tmp} {ty : TypeId} (h : fn.results = #[.cell p ty]) (tmps : Array Value) (P : Program) (w : World) :
    (results fn tmps).run P w = ((asAddr (tmps.getD p undef)).run P w).andThen fun ad w1 => ((loadVar ty ad).run P w1) := by
  unfold results
  simp [h, Sem.run_bind, Result.andThen]
theorem load_int {W : World} {g : Nat} {v : Int} (hx : Box W g 3 (.int .i64 v)) : (loadVar 3 ⟨g, 0, none⟩).run Tryz.prog W = .ok (.int .i64 v) W := by
  have c0 := hx.cell
  go_simp
section
variable {w : World} {lo hi n cap : Nat} {s : Nat → Nat} {r : Raw}
set_option maxRecDepth 100000 in
set_option maxHeartbeats 4000000 in
theorem wrongHeader_any (h : RawAt w lo hi s n cap r) (hT : Told r) :
    Calls Tryz.prog 71 #[.pointer (some ⟨s 14, 0, none⟩)] w fun e w' => e = .returned (.int .i64 (nxr (hdBad r) (64 * n) 0)) ∧ Out 0 0 w w' := by
  have HR0 := hid_mk h
  have HTo := hid_mk hT
  have HT : Hid (hi ≤ w.heap.size ∧ 4 ≤ w.heap.size ∧ 4 ≤ lo ∧ n ≤ 4096 ∧ 1 ≤ n) := ⟨h.top, h.tab.lt, h.glob, h.n2, h.n1⟩
  have HL := hid_mk (fun w => spAll_any (s 14) w)
  clear h hT
  refine (callsIn_wide (n := 0)).1 ?_
  refine callsIn_of_wp_marks Tryz.func71 rfl trivial ?_ rfl
  simp only [Tryz.ntmps71, List.size_toArray, List.length_cons, List.length_nil, Nat.reduceAdd, Nat.reduceSub, Array.replicate_succ, Array.replicate_zero, List.push_toArray, List.append_toArray, List.nil_append, List.cons_append]
  gi_wp2_with (refine ⟨trivial, rfl, ?_⟩; gi_at_call 67; refine (callsIn_wide.2 (HL.out _)).mono ?_; rintro e w1 ⟨rfl, rfl⟩)
  obtain ⟨W1, hW1⟩ : ∃ W1, ((w.alloc (.cells #[.pointer (some ⟨s 14, 0, none⟩)] 34)).alloc (.cells #[.int .i64 0] 3)).alloc (.cells #[.pointer (some ⟨s 14, 0, none⟩)] 34) = W1 := ⟨_, rfl⟩
  obtain ⟨G, hG⟩ : ∃ G, w.heap.size = G := ⟨_, rfl⟩
  have hs1 : W1.heap.size = G + 3 := by rw [← hW1, ← hG]; simp
  have ho1 : Out 0 0 w W1 := by rw [← hW1]; exact ((((Out.refl 0 0 w).alloc _).alloc _).alloc _)
  have hy1 : Box W1 G 34 (.pointer (some ⟨s 14, 0, none⟩)) := by rw [← hW1, ← hG]; exact Box.alloc (w := (w.alloc (.cells #[.pointer (some ⟨s 14, 0, none⟩)] 34)).alloc (.cells #[.int .i64 0] 3)) two_first _
  have hx1 : Box W1 (G + 1) 3 (.int .i64 0) := by rw [← hW1, ← hG]; exact Box.alloc (w := (w.alloc (.cells #[.pointer (some ⟨s 14, 0, none⟩)] 34)).alloc (.cells #[.int .i64 0] 3)) (heap_alloc2_new _ _ _) _
  have hz1 : Box W1 (G + 1 + 1) 34 (.pointer (some ⟨s 14, 0, none⟩)) := by
    rw [← hW1, ← hG]
    have := heap_alloc_new ((w.alloc (.cells #[.pointer (some ⟨s 14, 0, none⟩)] 34)).alloc (.cells #[.int .i64 0] 3)) (.cells #[.pointer (some ⟨s 14, 0, none⟩)] 34)
    rw [World.size_alloc, World.size_alloc] at this
    exact this
  rw [hW1, hG]
  rw [hG] at HT
  have HGw := hid_mk hG
  have HO1 := hid_mk ho1
  have HY1 := hid_mk hy1
  have HX1 := hid_mk hx1
  have HZ1 := hid_mk hz1
  clear hW1 ho1 hx1 hz1 hy1 hG
  refine overAll (lo := lo) (hi := hi) (n := n) (cap := cap) (g := G + 1 + 1) (s := s) rfl rfl
    (fun p W => p ≤ 64 * n ∧ RawAt W lo hi s n cap r ∧ (∀ j, j < p → hdBad r j = false) ∧ Box W G 34 (.pointer (some ⟨s 14, 0, none⟩)) ∧ Box W (G + 1) 3 (.int .i64 0) ∧ Box W (G + 1 + 1) 34 (.pointer (some ⟨s 14, 0, none⟩)) ∧ Out 0 0 w W)
    (fun W => (∀ j, j < 64 * n → hdBad r j = false) ∧ Box W (G + 1) 3 (.int .i64 0) ∧ Out 0 0 w W)
    (fun c W => c = .ret ∧ Box W (G + 1) 3 (.int .i64 (nxr (hdBad r) (64 * n) 0)) ∧ Out 0 0 w W) ?hm1 ?hq1 ?hqk1 ?hqx1 ?hy1 ?he1 ?hz1 ?hdone1 ?hstop1
  case hm1 =>
    rintro p W ⟨hp, a1, a2, a3, a4, a5, a6⟩
    exact ⟨hp, _, a1, HTo.out, a5⟩
  case hq1 =>
    rintro p W W' x y ⟨hp, a1, a2, a3, a4, a5, a6⟩ o hx
    have hT := HT.out
    have hgw := HGw.out
    exact ⟨hp, a1.kept o (by omega) (by omega), a2, a3.kept o (by omega), a4.kept o (by omega), a5.kept o (by omega), out_far a6 o (by omega)⟩
  case hqk1 =>
    rintro W W' x y ⟨a1, a2, a3⟩ o hx
    have hT := HT.out
    have hgw := HGw.out
    exact ⟨a1, a2.kept o (by omega), out_far a3 o (by omega)⟩
  case hqx1 =>
    rintro c W W' x y ⟨a1, a2, a3⟩ o hx
    have hT := HT.out
    have hgw := HGw.out
    exact ⟨a1, a2.kept o (by omega), out_far a3 o (by omega)⟩
  case hz1 => exact ⟨Nat.zero_le _, HR0.out.quiet HO1.out, fun j h => absurd h (by omega), HY1.out, HX1.out, HZ1.out, HO1.out⟩
  case he1 =>
    rintro p W rr ⟨hp, a1, a2, a3, a4, a5, a6⟩ hr hk
    obtain ⟨eP, eM⟩ := raw_one a1 hr
    rw [← eP] at hk
    rcases nxr_cases r.P (64 * n) p with ⟨_, hz⟩ | ⟨i, hi', _⟩
    · refine ⟨fun j hj => ?_, a4, a6⟩
      by_cases e : j < p
      · exact a2 j e
      · unfold hdBad; rw [hz j (by omega) hj]; rfl
    · have : (-1 : Int) = i := hk.symm.trans hi'
      omega
  case hy1 =>
    rintro p W rr k b ⟨hp, a1, a2, a3, a4, a5, a6⟩ hr hk hb hsz
    obtain ⟨eP, eM⟩ := raw_one a1 hr
    rw [← eP] at hk
    rw [← eM] at hb
    obtain ⟨hpk, hkn, hPk, hz⟩ : p ≤ k ∧ k < 64 * n ∧ r.P k = true ∧ ∀ j, p ≤ j → j < k → r.P j = false := by
      rcases nxr_cases r.P (64 * n) p with ⟨e1, _⟩ | ⟨i, e1, e2, e3, e4, e5⟩
      · have : (-1 : Int) = k := e1.symm.trans hk
        omega
      · have : i = k := by have : (i : Int) = k := e1.symm.trans hk; omega
        subst this
        exact ⟨e3 hp, e2, e4, e5⟩
    rw [hs1] at hsz ⊢
    have hbef : ∀ j, j < k → hdBad r j = false := fun j hj => by
      by_cases e : j < p
      · exact a2 j e
      · unfold hdBad; rw [hz j (by omega) hj]; rfl
    obtain ⟨b1, b2, b3, b4⟩ := b
    have hbk : hdBad r k = !(r.W k == makeV k b1 b2) := by unfold hdBad; rw [hPk, hb]; rfl
    have A := hid_mk (And.intro a1 (And.intro a3 (And.intro a4 (And.intro a5 a6))))
    have HK := hid_mk (And.intro hkn hsz)
    have HBf := hid_mk hbef
    have HBk := hid_mk hbk
    clear a1 a2 a3 a4 a5 a6 hr hk hb eP eM hz hPk hp hpk hkn hsz hbef hbk
    unfold blkV
    dsimp only at A ⊢
    obtain ⟨WA, hWA⟩ : ∃ WA, W.alloc (bo (k : Int) b1 b2 b3 b4) = WA := ⟨_, rfl⟩
    have HBA : Hid (WA.heap[W.heap.size]? = some (bo (k : Int) b1 b2 b3 b4)) := by rw [← hWA]; exact heap_alloc_new _ _
    have HOA : Hid (Out 0 0 W WA) := by rw [← hWA]; exact (Out.refl 0 0 W).alloc _
    obtain ⟨H, hH⟩ : ∃ H, W.heap.size = H := ⟨_, rfl⟩
    rw [hH] at HK HBA
    unfold bo at hWA HBA
    gi_wp2
    (try rw [hWA])
    refine ⟨HOA.out.any _ _, ?_⟩
    (try rw [hH])
    clear hWA hH
    intro W2 o2
    have hT := HT.out
    have hkk := HK.out
    have hgw := HGw.out
    have HR2 := hid_mk ((A.out.1.quiet HOA.out).kept o2 (.inl (by omega)) (.inl (by omega)))
    have HY2 := hid_mk ((A.out.2.1.kept HOA.out (.inr (Nat.zero_le _))).kept o2 (.inl (by omega)))
    have HX2 := hid_mk ((A.out.2.2.1.kept HOA.out (.inr (Nat.zero_le _))).kept o2 (.inl (by omega)))
    have HZ2 := hid_mk ((A.out.2.2.2.1.kept HOA.out (.inr (Nat.zero_le _))).kept o2 (.inl (by omega)))
    have HB2 := hid_mk (o2.heap HBA.out (.inr (by omega)))
    have HO2 := hid_mk (out_far (A.out.2.2.2.2.trans HOA.out) o2 (.inl (by omega)))
    have c0 := HY2.out.cell
    obtain ⟨q0, q1, q2, q3, q4⟩ := bo_facts HB2.out
    have HHd := hid_mk (headed_any HR2.out (a := k) hkk.1 b1 b2 b3 b4)
    rw [show (r.W k == makeV (k : Int) b1 b2) = !(hdBad r k) from by rw [HBk.out, Bool.not_not]] at HHd
    clear o2 hT hkk hgw A
    cases hbad : hdBad r k with
    | false =>
      rw [hbad] at HHd
      have HBd := hid_mk hbad
      clear hbad
      gi_wp2_with (refine ⟨trivial, rfl, ?_⟩; gi_at_call 102; refine (callsIn_wide.2 HHd.out).mono ?_; rintro e w3 ⟨rfl, ho3⟩)
      refine ⟨ho3.any _ _, by have := HK.out; omega, HR2.out.quiet ho3, fun j hj => ?_, HY2.out.kept ho3 (.inr (Nat.zero_le _)), HX2.out.kept ho3 (.inr (Nat.zero_le _)), HZ2.out.kept ho3 (.inr (Nat.zero_le _)), out_far HO2.out ho3 (.inr rfl)⟩
      by_cases e : j = k
      · rw [e]; exact HBd.out
      · exact HBf.out j (by omega)
    | true =>
      rw [hbad] at HHd
      have HBd := hid_mk hbad
      clear hbad
      gi_wp2_with (refine ⟨trivial, rfl, ?_⟩; gi_at_call 102; refine (callsIn_wide.2 HHd.out).mono ?_; rintro e w3 ⟨rfl, ho3⟩; have HO3 := hid_mk ho3; have hx3 := HX2.out.kept ho3 (.inr (Nat.zero_le _)); have HX3 := hid_mk hx3; have e0 := hx3.cell; have e1 := hx3.frozen; clear q0 q1 q2 q3 q4; obtain ⟨q0, q1, q2, q3, q4⟩ := bo_facts (ho3.heap HB2.out (.inr (Nat.zero_le _))); clear ho3 hx3)
      have hset := (Out.refl (G + 1) (G + 2) w3).setCell (p := ⟨G + 1, 0, none⟩) (.inl ⟨Nat.le_refl _, Nat.lt_succ_self _⟩) (.int .i64 (k : Int))
      have hbx := HX3.out.set (.int .i64 (k : Int))
      have hgw := HGw.out
      have hnx : nxr (hdBad r) (64 * n) 0 = (k : Int) := nxr_of HK.out.1 (Nat.zero_le _) HBd.out (fun j _ hj => HBf.out j hj)
      exact ⟨(HO3.out.any 0 (G + 3)).trans (hset.wide (Nat.zero_le _) (by omega)), rfl, by rw [hnx]; exact hbx, out_far (out_far HO2.out HO3.out (.inr rfl)) hset (.inl (by omega))⟩
  case hstop1 =>
    rintro c W ⟨rfl, a2, a3⟩ hd
    rw [hs1] at hd ⊢
    have HD := hid_mk hd
    have HX := hid_mk a2
    have HO := hid_mk a3
    clear a2 a3 hd
    gi_wp2
    have hgw := HGw.out
    have hT := HT.out
    refine ⟨by simp, .inl ⟨_, _, rfl, run_takeDeferred HD.out, ?_⟩⟩
    have hx := HX.out.kept (out_putObj W (G + 3) (.deferred none)) (.inl (by omega))
    refine ⟨_, (results_cell rfl _ _ _).trans ?_, rfl, out_far HO.out (out_putObj _ _ _) (by omega)⟩
    exact load_int hx
  case hdone1 =>
    rintro W ⟨a1, a2, a3⟩ hd
    rw [hs1] at hd ⊢
    have HD := hid_mk hd
    have HX := hid_mk a2
    have HO := hid_mk a3
    have HN := hid_mk a1
    have c0 := a2.cell
    have c1 := a2.frozen
    clear a1 a2 a3 hd
    gi_wp2
    have hgw := HGw.out
    have hT := HT.out
    have hset := (Out.refl (G + 1) (G + 2) W).setCell (p := ⟨G + 1, 0, none⟩) (.inl ⟨Nat.le_refl _, Nat.lt_succ_self _⟩) (.int .i64 (-1))
    refine ⟨by simp, .inl ⟨_, _, rfl, run_takeDeferred (hset.heap HD.out (by omega)), ?_⟩⟩
    have hx := (HX.out.set (.int .i64 (-1))).kept (out_putObj _ (G + 3) (.deferred none)) (.inl (by omega))
    refine ⟨.int .i64 (-1), (results_cell rfl _ _ _).trans ?rs, ?_, out_far (out_far HO.out hset (by omega)) (out_putObj _ _ _) (by omega)⟩
    case rs => exact load_int hx
    rcases nxr_cases (hdBad r) (64 * n) 0 with ⟨e1, _⟩ | ⟨i, e1, e2, e3, e4, e5⟩
    · rw [e1]
    · rw [HN.out i e2] at e4; cases e4
end
end Go.Proofs.YtjbbkeoolodeaaaGreatDoor
