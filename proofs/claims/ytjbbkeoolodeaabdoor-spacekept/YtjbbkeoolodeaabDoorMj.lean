import Derived.Test.YtjbbkeoolodeaabDoorMh
import Derived.Test.YtjbbkeoolodeaabDoorMg
import Derived.Test.YtjbbkeoolodeaabDoorMi
import Derived.Laws.FloatArith
namespace Go.Proofs.YtjbbkeoolodeaabDoor
open Go.RowKit
set_option linter.unusedVariables false
set_option linter.unusedSimpArgs false

def drR (n : Nat) (r : Raw) (a : Nat) (z x : Int) : Raw :=
  { r with S := if 32 < z then gvS r.S n ((a / 64 : Nat) : Int) else r.S, P := upd r.P a false, M := fun i => if i = (a : Int) then none else r.M i, R := fun i => if i = x then none else r.R i }
section
variable {w : World} {lo hi n cap : Nat} {s : Nat → Nat} {r : Raw}
theorem mapM_del (M : Int → Option Blk) (a : Int) : (fun y => if y = a then none else mapM M y) = mapM (fun i => if i = a then none else M i) := by
  funext y
  unfold mapM
  by_cases e : y = a
  · subst e; simp
  · simp [e]
theorem mapR_del (R : Int → Option Int) (a : Int) : (fun y => if y = a then none else mapR R y) = mapR (fun i => if i = a then none else R i) := by
  funext y
  unfold mapR
  by_cases e : y = a
  · subst e; simp
  · simp [e]
set_option maxRecDepth 100000 in
set_option maxHeartbeats 4000000 in
theorem drop_any (h : RawAt w lo hi s n cap r) {a : Nat} {k z x t : Int} (z1 : 1 ≤ z) (z2 : z ≤ 1024) (ha : a < 64 * n) :
    Calls Tryd.prog 68 #[.pointer (some ⟨s 14, 0, none⟩), .agg #[.int .i64 (a : Int), .int .i64 k, .int .i64 z, .int .i64 x, .int .i64 t]] w fun e w' => (∃ v, e = .returned v) ∧ RawAt w' lo hi s n cap (drR n r a z x) ∧ Out lo hi w w' := by
  have h0 : Out 0 0 w (w.alloc (bo (a : Int) k z x t)) := (Out.refl 0 0 w).alloc _
  have hq := h.quiet h0
  have HQ := hid_mk hq
  have H0 := hid_mk h0
  have HBX : Hid ((w.alloc (bo (a : Int) k z x t)).heap[w.heap.size]? = some (bo (a : Int) k z x t)) := heap_alloc_new _ _
  have HD : Hid (hi ≤ w.heap.size ∧ 4 ≤ w.heap.size ∧ n ≤ 4096 ∧ (s 12 < hi ∧ s 13 < hi ∧ s 10 < hi ∧ s 8 + 2 ≤ hi ∧ s 14 < hi) ∧ (s 14 < s 12 ∨ s 12 + 1 ≤ s 14) ∧ (s 14 < s 13 ∨ s 13 + 1 ≤ s 14) ∧ (s 14 < s 10 ∨ s 10 + 1 ≤ s 14) ∧ (s 14 < s 8 ∨ s 8 + 2 ≤ s 14)) := by
    have i12 := h.inn 12 (by omega)
    have i13 := h.inn 13 (by omega)
    have i11 := h.inn 10 (by omega)
    have i8 := h.inn 8 (by omega)
    have i14 := h.inn 14 (by omega)
    have a12 := h.apart 12 14 (by omega) (by omega) (by omega)
    have a13 := h.apart 13 14 (by omega) (by omega) (by omega)
    have a11 := h.apart 10 14 (by omega) (by omega) (by omega)
    have a8 := h.apart 8 14 (by omega) (by omega) (by omega)
    simp [ln] at i12 i13 i11 i8 i14 a12 a13 a11 a8
    exact ⟨h.top, h.tab.lt, h.n2, by omega, by omega, by omega, by omega, by omega⟩
  have HA := hid_mk ha
  have HPg := hid_mk (fun w' => calls_out (pages_any z w') (Out.refl 0 0 w'))
  have b0 : (0 : Int) ≤ (a : Int) := by omega
  obtain ⟨d0, d1, d2, d3, d4, d5⟩ := hq.cells
  obtain ⟨q0, q1, q2, q3, q4⟩ := bo_facts HBX.out
  have hqd := hq.quiet ((Out.refl 0 0 _).drew)
  obtain ⟨wM, hmu, hmM, hoM⟩ := mp_del (ty := 0) Tryd.underlying77 Tryd.underlying3 hqd.objs (a : Int)
  have HRM := hid_mk (hqd.setM (M' := fun i => if i = (a : Int) then none else r.M i) hoM (by rw [← mapM_del]; exact hmM))
  unfold bo at *
  clear h h0 hq hqd ha hmM
  go_enter Tryd.func68, Tryd.ntmps68
  go_wp2_with fail
  refine wp_region_held_drew (S := fun w' => w'.cell? ⟨s 14, 2, none⟩ = some (.map (some (s 12))) ∧ w'.cell? ⟨w.heap.size, 0, none⟩ = some (.int .i64 (a : Int)) ∧ w'.cell? ⟨w.heap.size, 1, none⟩ = some (.int .i64 k) ∧ w'.cell? ⟨w.heap.size, 2, none⟩ = some (.int .i64 z) ∧ w'.cell? ⟨w.heap.size, 3, none⟩ = some (.int .i64 x) ∧ w'.cell? ⟨w.heap.size, 4, none⟩ = some (.int .i64 t)) (by kernel_rfl) ?hS1 (fun hHeld => ?rest1)
  case hS1 => exact ⟨d2, q0, q1, q2, q3, q4⟩
  refine wpAnyH_take (i := 0) (v := ?v2) rfl (by kernel_rfl) (by kernel_rfl) (by kernel_rfl) (fun _ _ _ h => h) (Or.inl ⟨by rfl, ?hy2⟩) (by assumption) ?rest2
  case hy2 => (intro w hSw; (try dsimp only at hSw); simp only [List.getElem_toArray, List.getElem_cons_zero, List.getElem_cons_succ]; go_simp; (try with_reducible rfl))
  (try simp only [Act.put, List.getElem_toArray, List.getElem_cons_zero, List.getElem_cons_succ, List.setIfInBounds_toArray, List.set_cons_zero, List.set_cons_succ])
  refine wpAnyH_take (i := 1) (v := ?v3) rfl (by kernel_rfl) (by kernel_rfl) (by kernel_rfl) (fun _ _ _ h => h) (Or.inl ⟨by rfl, ?hy3⟩) (by assumption) ?rest3
  case hy3 => (intro w hSw; (try dsimp only at hSw); simp only [List.getElem_toArray, List.getElem_cons_zero, List.getElem_cons_succ]; go_simp; (try with_reducible rfl))
  (try simp only [Act.put, List.getElem_toArray, List.getElem_cons_zero, List.getElem_cons_succ, List.setIfInBounds_toArray, List.set_cons_zero, List.set_cons_succ])
  refine wpAnyH_take (i := 2) (v := ?v4) rfl (by kernel_rfl) (by kernel_rfl) (by kernel_rfl) (fun _ _ _ h => h) (Or.inl ⟨by rfl, ?hy4⟩) (by assumption) ?rest4
  case hy4 => (intro w hSw; (try dsimp only at hSw); simp only [List.getElem_toArray, List.getElem_cons_zero, List.getElem_cons_succ]; go_simp; (try with_reducible rfl))
  (try simp only [Act.put, List.getElem_toArray, List.getElem_cons_zero, List.getElem_cons_succ, List.setIfInBounds_toArray, List.set_cons_zero, List.set_cons_succ])
  refine wpAnyH_take (i := 3) (v := ?v5) rfl (by kernel_rfl) (by kernel_rfl) (by kernel_rfl) (fun _ _ _ h => h) (Or.inl ⟨by rfl, ?hy5⟩) (by assumption) ?rest5
  case hy5 => (intro w hSw; (try dsimp only at hSw); simp only [List.getElem_toArray, List.getElem_cons_zero, List.getElem_cons_succ]; go_simp; (try with_reducible rfl))
  (try simp only [Act.put, List.getElem_toArray, List.getElem_cons_zero, List.getElem_cons_succ, List.setIfInBounds_toArray, List.set_cons_zero, List.set_cons_succ])
  refine wpAnyH_take (i := 4) (v := ?v6) rfl (by kernel_rfl) (by kernel_rfl) (by kernel_rfl) (fun _ _ _ h => h) (Or.inl ⟨by rfl, ?hy6⟩) (by assumption) ?rest6
  case hy6 => (intro w hSw; (try dsimp only at hSw); simp only [List.getElem_toArray, List.getElem_cons_zero, List.getElem_cons_succ]; go_simp; (try with_reducible rfl))
  (try simp only [Act.put, List.getElem_toArray, List.getElem_cons_zero, List.getElem_cons_succ, List.setIfInBounds_toArray, List.set_cons_zero, List.set_cons_succ])
  refine wpAnyH_take (i := 5) (v := ?v7) rfl (by kernel_rfl) (by kernel_rfl) (by kernel_rfl) (fun _ _ _ h => h) (Or.inl ⟨by rfl, ?hy7⟩) (by assumption) ?rest7
  case hy7 => (intro w hSw; (try dsimp only at hSw); simp only [List.getElem_toArray, List.getElem_cons_zero, List.getElem_cons_succ]; go_simp; (try with_reducible rfl))
  (try simp only [Act.put, List.getElem_toArray, List.getElem_cons_zero, List.getElem_cons_succ, List.setIfInBounds_toArray, List.set_cons_zero, List.set_cons_succ])
  refine wpAnyH_ready (rs := [6]) (by kernel_rfl) (by simp) ?_
  refine AllReadyH.cons rfl (fun KK hK => ?_) AllReadyH.nil
  simp only [List.getElem_toArray, List.getElem_cons_zero, List.getElem_cons_succ]
  go_simp
  refine hK.out _ _ ?hS8 (fun hHeld2 => ?rest8)
  case hS8 => exact ⟨hoM.cell hHeld.1 (by have := HD.out; omega), hoM.cell hHeld.2.1 (by have := HD.out; omega), hoM.cell hHeld.2.2.1 (by have := HD.out; omega), hoM.cell hHeld.2.2.2.1 (by have := HD.out; omega), hoM.cell hHeld.2.2.2.2.1 (by have := HD.out; omega), hoM.cell hHeld.2.2.2.2.2 (by have := HD.out; omega)⟩
  clear hK KK
  (try clear hHeld)
  have hHeld := hHeld2
  clear hHeld2
  (try simp only [Act.put, List.getElem_toArray, List.getElem_cons_zero, List.getElem_cons_succ, List.setIfInBounds_toArray, List.set_cons_zero, List.set_cons_succ])
  refine wpAnyH_done (by kernel_rfl) ?_ _
  clear hHeld
  have ho1 : Out lo hi (w.alloc (.cells #[.int .i64 (a : Int), .int .i64 k, .int .i64 z, .int .i64 x, .int .i64 t] 36)) wM := (((Out.refl 0 0 _).drew).any lo hi).trans (HQ.out.quiet ((Out.refl 0 0 _).drew) |>.wide (i := 12) (by omega) hoM)
  have HO1 := hid_mk ho1
  have HBM := hid_mk (ho1.heap HBX.out (.inr HD.out.1))
  clear d0 d1 d2 d3 d4 d5 q0 q1 q2 q3 q4 hmu hoM ho1
  obtain ⟨d0, d1, d2, d3, d4, d5⟩ := HRM.out.cells
  obtain ⟨q0, q1, q2, q3, q4⟩ := bo_facts HBM.out
  have hqd := HRM.out.quiet ((Out.refl 0 0 _).drew)
  obtain ⟨w2, hmu, hmR, hoR⟩ := mp_del (ty := 0) Tryd.underlying80 Tryd.underlying3 hqd.sers x
  have HR2 := hid_mk (hqd.setR (R' := fun i => if i = x then none else r.R i) hoR (by rw [← mapR_del]; exact hmR))
  have ho2 := HO1.out.trans ((((Out.refl 0 0 wM).drew).any lo hi).trans (hqd.wide (i := 13) (by omega) hoR))
  have HO2 := hid_mk ho2
  have HB2 := hid_mk (ho2.heap HBX.out (.inr HD.out.1))
  have HRR := hid_mk (HR2.out.quiet ((Out.refl 0 0 _).drew))
  clear hqd hmR ho2
  go_wp2_with fail
  refine wp_region_held_drew (S := fun w' => w'.cell? ⟨s 14, 12, none⟩ = some (.map (some (s 13))) ∧ w'.cell? ⟨w.heap.size, 0, none⟩ = some (.int .i64 (a : Int)) ∧ w'.cell? ⟨w.heap.size, 1, none⟩ = some (.int .i64 k) ∧ w'.cell? ⟨w.heap.size, 2, none⟩ = some (.int .i64 z) ∧ w'.cell? ⟨w.heap.size, 3, none⟩ = some (.int .i64 x) ∧ w'.cell? ⟨w.heap.size, 4, none⟩ = some (.int .i64 t)) (by kernel_rfl) ?hS9 (fun hHeld => ?rest9)
  case hS9 => exact ⟨d4, q0, q1, q2, q3, q4⟩
  refine wpAnyH_take (i := 0) (v := ?v10) rfl (by kernel_rfl) (by kernel_rfl) (by kernel_rfl) (fun _ _ _ h => h) (Or.inl ⟨by rfl, ?hy10⟩) (by assumption) ?rest10
  case hy10 => (intro w hSw; (try dsimp only at hSw); simp only [List.getElem_toArray, List.getElem_cons_zero, List.getElem_cons_succ]; go_simp; (try with_reducible rfl))
  (try simp only [Act.put, List.getElem_toArray, List.getElem_cons_zero, List.getElem_cons_succ, List.setIfInBounds_toArray, List.set_cons_zero, List.set_cons_succ])
  refine wpAnyH_take (i := 1) (v := ?v11) rfl (by kernel_rfl) (by kernel_rfl) (by kernel_rfl) (fun _ _ _ h => h) (Or.inl ⟨by rfl, ?hy11⟩) (by assumption) ?rest11
  case hy11 => (intro w hSw; (try dsimp only at hSw); simp only [List.getElem_toArray, List.getElem_cons_zero, List.getElem_cons_succ]; go_simp; (try with_reducible rfl))
  (try simp only [Act.put, List.getElem_toArray, List.getElem_cons_zero, List.getElem_cons_succ, List.setIfInBounds_toArray, List.set_cons_zero, List.set_cons_succ])
  refine wpAnyH_take (i := 2) (v := ?v12) rfl (by kernel_rfl) (by kernel_rfl) (by kernel_rfl) (fun _ _ _ h => h) (Or.inl ⟨by rfl, ?hy12⟩) (by assumption) ?rest12
  case hy12 => (intro w hSw; (try dsimp only at hSw); simp only [List.getElem_toArray, List.getElem_cons_zero, List.getElem_cons_succ]; go_simp; (try with_reducible rfl))
  (try simp only [Act.put, List.getElem_toArray, List.getElem_cons_zero, List.getElem_cons_succ, List.setIfInBounds_toArray, List.set_cons_zero, List.set_cons_succ])
  refine wpAnyH_take (i := 3) (v := ?v13) rfl (by kernel_rfl) (by kernel_rfl) (by kernel_rfl) (fun _ _ _ h => h) (Or.inl ⟨by rfl, ?hy13⟩) (by assumption) ?rest13
  case hy13 => (intro w hSw; (try dsimp only at hSw); simp only [List.getElem_toArray, List.getElem_cons_zero, List.getElem_cons_succ]; go_simp; (try with_reducible rfl))
  (try simp only [Act.put, List.getElem_toArray, List.getElem_cons_zero, List.getElem_cons_succ, List.setIfInBounds_toArray, List.set_cons_zero, List.set_cons_succ])
  refine wpAnyH_take (i := 4) (v := ?v14) rfl (by kernel_rfl) (by kernel_rfl) (by kernel_rfl) (fun _ _ _ h => h) (Or.inl ⟨by rfl, ?hy14⟩) (by assumption) ?rest14
  case hy14 => (intro w hSw; (try dsimp only at hSw); simp only [List.getElem_toArray, List.getElem_cons_zero, List.getElem_cons_succ]; go_simp; (try with_reducible rfl))
  (try simp only [Act.put, List.getElem_toArray, List.getElem_cons_zero, List.getElem_cons_succ, List.setIfInBounds_toArray, List.set_cons_zero, List.set_cons_succ])
  refine wpAnyH_take (i := 5) (v := ?v15) rfl (by kernel_rfl) (by kernel_rfl) (by kernel_rfl) (fun _ _ _ h => h) (Or.inl ⟨by rfl, ?hy15⟩) (by assumption) ?rest15
  case hy15 => (intro w hSw; (try dsimp only at hSw); simp only [List.getElem_toArray, List.getElem_cons_zero, List.getElem_cons_succ]; go_simp; (try with_reducible rfl))
  (try simp only [Act.put, List.getElem_toArray, List.getElem_cons_zero, List.getElem_cons_succ, List.setIfInBounds_toArray, List.set_cons_zero, List.set_cons_succ])
  refine wpAnyH_ready (rs := [6]) (by kernel_rfl) (by simp) ?_
  refine AllReadyH.cons rfl (fun KK hK => ?_) AllReadyH.nil
  simp only [List.getElem_toArray, List.getElem_cons_zero, List.getElem_cons_succ]
  go_simp
  refine hK.out _ _ ?hS16 (fun hHeld2 => ?rest16)
  case hS16 => exact ⟨hoR.cell hHeld.1 (by have := HD.out; omega), hoR.cell hHeld.2.1 (by have := HD.out; omega), hoR.cell hHeld.2.2.1 (by have := HD.out; omega), hoR.cell hHeld.2.2.2.1 (by have := HD.out; omega), hoR.cell hHeld.2.2.2.2.1 (by have := HD.out; omega), hoR.cell hHeld.2.2.2.2.2 (by have := HD.out; omega)⟩
  clear hK KK
  (try clear hHeld)
  have hHeld := hHeld2
  clear hHeld2
  (try simp only [Act.put, List.getElem_toArray, List.getElem_cons_zero, List.getElem_cons_succ, List.setIfInBounds_toArray, List.set_cons_zero, List.set_cons_succ])
  refine wpAnyH_done (by kernel_rfl) ?_ _
  clear hHeld
  clear d0 d1 d2 d3 d4 d5 q0 q1 q2 q3 q4 hmu hoR
  obtain ⟨d0, d1, d2, d3, d4, d5⟩ := HR2.out.cells
  obtain ⟨q0, q1, q2, q3, q4⟩ := bo_facts HB2.out
  go_wp2_with fail
  refine wp_region_held_drew (S := fun w' => w'.cell? ⟨s 14, 3, none⟩ = some (.pointer (some ⟨s 8 + 1, 0, none⟩)) ∧ w'.cell? ⟨w.heap.size, 0, none⟩ = some (.int .i64 (a : Int)) ∧ w'.cell? ⟨w.heap.size, 1, none⟩ = some (.int .i64 k) ∧ w'.cell? ⟨w.heap.size, 2, none⟩ = some (.int .i64 z) ∧ w'.cell? ⟨w.heap.size, 3, none⟩ = some (.int .i64 x) ∧ w'.cell? ⟨w.heap.size, 4, none⟩ = some (.int .i64 t)) (by kernel_rfl) ?hS17 (fun hHeld => ?rest17)
  case hS17 => exact ⟨d3, q0, q1, q2, q3, q4⟩
  refine wpAnyH_take (i := 0) (v := ?v18) rfl (by kernel_rfl) (by kernel_rfl) (by kernel_rfl) (fun _ _ _ h => h) (Or.inl ⟨by rfl, ?hy18⟩) (by assumption) ?rest18
  case hy18 => (intro w hSw; (try dsimp only at hSw); simp only [List.getElem_toArray, List.getElem_cons_zero, List.getElem_cons_succ]; go_simp; (try with_reducible rfl))
  (try simp only [Act.put, List.getElem_toArray, List.getElem_cons_zero, List.getElem_cons_succ, List.setIfInBounds_toArray, List.set_cons_zero, List.set_cons_succ])
  refine wpAnyH_take (i := 1) (v := ?v19) rfl (by kernel_rfl) (by kernel_rfl) (by kernel_rfl) (fun _ _ _ h => h) (Or.inl ⟨by rfl, ?hy19⟩) (by assumption) ?rest19
  case hy19 => (intro w hSw; (try dsimp only at hSw); simp only [List.getElem_toArray, List.getElem_cons_zero, List.getElem_cons_succ]; go_simp; (try with_reducible rfl))
  (try simp only [Act.put, List.getElem_toArray, List.getElem_cons_zero, List.getElem_cons_succ, List.setIfInBounds_toArray, List.set_cons_zero, List.set_cons_succ])
  refine wpAnyH_take (i := 2) (v := ?v20) rfl (by kernel_rfl) (by kernel_rfl) (by kernel_rfl) (fun _ _ _ h => h) (Or.inl ⟨by rfl, ?hy20⟩) (by assumption) ?rest20
  case hy20 => (intro w hSw; (try dsimp only at hSw); simp only [List.getElem_toArray, List.getElem_cons_zero, List.getElem_cons_succ]; go_simp; (try with_reducible rfl))
  (try simp only [Act.put, List.getElem_toArray, List.getElem_cons_zero, List.getElem_cons_succ, List.setIfInBounds_toArray, List.set_cons_zero, List.set_cons_succ])
  refine wpAnyH_take (i := 3) (v := ?v21) rfl (by kernel_rfl) (by kernel_rfl) (by kernel_rfl) (fun _ _ _ h => h) (Or.inl ⟨by rfl, ?hy21⟩) (by assumption) ?rest21
  case hy21 => (intro w hSw; (try dsimp only at hSw); simp only [List.getElem_toArray, List.getElem_cons_zero, List.getElem_cons_succ]; go_simp; (try with_reducible rfl))
  (try simp only [Act.put, List.getElem_toArray, List.getElem_cons_zero, List.getElem_cons_succ, List.setIfInBounds_toArray, List.set_cons_zero, List.set_cons_succ])
  refine wpAnyH_take (i := 4) (v := ?v22) rfl (by kernel_rfl) (by kernel_rfl) (by kernel_rfl) (fun _ _ _ h => h) (Or.inl ⟨by rfl, ?hy22⟩) (by assumption) ?rest22
  case hy22 => (intro w hSw; (try dsimp only at hSw); simp only [List.getElem_toArray, List.getElem_cons_zero, List.getElem_cons_succ]; go_simp; (try with_reducible rfl))
  (try simp only [Act.put, List.getElem_toArray, List.getElem_cons_zero, List.getElem_cons_succ, List.setIfInBounds_toArray, List.set_cons_zero, List.set_cons_succ])
  refine wpAnyH_take (i := 5) (v := ?v23) rfl (by kernel_rfl) (by kernel_rfl) (by kernel_rfl) (fun _ _ _ h => h) (Or.inl ⟨by rfl, ?hy23⟩) (by assumption) ?rest23
  case hy23 => (intro w hSw; (try dsimp only at hSw); simp only [List.getElem_toArray, List.getElem_cons_zero, List.getElem_cons_succ]; go_simp; (try with_reducible rfl))
  (try simp only [Act.put, List.getElem_toArray, List.getElem_cons_zero, List.getElem_cons_succ, List.setIfInBounds_toArray, List.set_cons_zero, List.set_cons_succ])
  refine wpAnyH_ready (rs := [6]) (by kernel_rfl) (by simp) ?_
  refine AllReadyH.cons rfl (fun KK hK => ?_) AllReadyH.nil
  simp only [List.getElem_toArray, List.getElem_cons_zero, List.getElem_cons_succ]
  go_simp
  refine (clear_any HRR.out.places (a : Int)).mono ?_
  rintro e w3 ⟨rfl, hmp, hop⟩
  refine hK.out _ _ ?hS24 (fun hHeld2 => ?rest24)
  case hS24 => exact ⟨hop.cell hHeld.1 (by have := HD.out; omega), hop.cell hHeld.2.1 (by have := HD.out; omega), hop.cell hHeld.2.2.1 (by have := HD.out; omega), hop.cell hHeld.2.2.2.1 (by have := HD.out; omega), hop.cell hHeld.2.2.2.2.1 (by have := HD.out; omega), hop.cell hHeld.2.2.2.2.2 (by have := HD.out; omega)⟩
  clear hK KK
  (try clear hHeld)
  have hHeld := hHeld2
  clear hHeld2
  (try simp only [Act.put, List.getElem_toArray, List.getElem_cons_zero, List.getElem_cons_succ, List.setIfInBounds_toArray, List.set_cons_zero, List.set_cons_succ])
  refine wpAnyH_done (by kernel_rfl) ?_ _
  clear hHeld
  have ho3 := HO2.out.trans ((((Out.refl 0 0 w2).drew).any lo hi).trans (HRR.out.wide (i := 8) (by omega) hop))
  have HR3 := hid_mk (HRR.out.setP hop hmp)
  have HO3 := hid_mk ho3
  have HB3 := hid_mk (ho3.heap HBX.out (.inr HD.out.1))
  have hPe : Hid (setS r.P (64 * n) (a : Int) false = upd r.P a false) := by
    show _ = _
    unfold setS
    rw [if_pos (show inB (64 * n) (a : Int) = true from by unfold inB; simp; have := HA.out; omega)]
    rfl
  clear d0 d1 d2 d3 d4 d5 q0 q1 q2 q3 q4 hmp hop ho3
  obtain ⟨d0, d1, d2, d3, d4, d5⟩ := HR3.out.cells
  obtain ⟨q0, q1, q2, q3, q4⟩ := bo_facts HB3.out
  by_cases hz : 32 < z
  · have hpz : 0 < pagesV z := by unfold pagesV; rw [if_pos ⟨hz, z2⟩]; omega
    have HZ := hid_mk hz
    have hPv := hid_mk hpz
    generalize pagesV z = pv at *
    go_wp2_with (refine (HPg.out _).mono ?_; rintro e w4 ⟨rfl, ho4⟩)
    have HR4 := hid_mk (HR3.out.quiet ho4)
    have HR4d := hid_mk ((HR3.out.quiet ho4).quiet ((Out.refl 0 0 _).drew))
    have HB4 := hid_mk (ho4.heap HB3.out (.inr (Nat.zero_le _)))
    have HO4 := hid_mk (HO3.out.trans (ho4.any lo hi))
    clear d0 d1 d2 d3 d4 d5 q0 q1 q2 q3 q4 ho4
    obtain ⟨d0, d1, d2, d3, d4, d5⟩ := HR4.out.cells
    obtain ⟨q0, q1, q2, q3, q4⟩ := bo_facts HB4.out
    have HQ64 : Hid (IntKind.i64.wrap ((a : Int) / 64) = ((a / 64 : Nat) : Int)) := by
      show _ = _
      have := HA.out
      have := HD.out.2.2.1
      simp [IntKind.wrap, IntKind.signed, IntKind.bits]
      omega
    go_wp2_with fail
    refine wp_region_held_drew (S := fun w' => w'.cell? ⟨s 14, 1, none⟩ = some (.pointer (some ⟨s 9, 0, none⟩)) ∧ w'.cell? ⟨w.heap.size, 0, none⟩ = some (.int .i64 (a : Int)) ∧ w'.cell? ⟨w.heap.size, 1, none⟩ = some (.int .i64 k) ∧ w'.cell? ⟨w.heap.size, 2, none⟩ = some (.int .i64 z) ∧ w'.cell? ⟨w.heap.size, 3, none⟩ = some (.int .i64 x) ∧ w'.cell? ⟨w.heap.size, 4, none⟩ = some (.int .i64 t)) (by kernel_rfl) ?hS25 (fun hHeld => ?rest25)
    case hS25 => exact ⟨d1, q0, q1, q2, q3, q4⟩
    refine wpAnyH_take (i := 0) (v := ?v26) rfl (by kernel_rfl) (by kernel_rfl) (by kernel_rfl) (fun _ _ _ h => h) (Or.inl ⟨by rfl, ?hy26⟩) (by assumption) ?rest26
    case hy26 => (intro w hSw; (try dsimp only at hSw); simp only [List.getElem_toArray, List.getElem_cons_zero, List.getElem_cons_succ]; go_simp; (try with_reducible rfl))
    (try simp only [Act.put, List.getElem_toArray, List.getElem_cons_zero, List.getElem_cons_succ, List.setIfInBounds_toArray, List.set_cons_zero, List.set_cons_succ])
    refine wpAnyH_take (i := 1) (v := ?v27) rfl (by kernel_rfl) (by kernel_rfl) (by kernel_rfl) (fun _ _ _ h => h) (Or.inl ⟨by rfl, ?hy27⟩) (by assumption) ?rest27
    case hy27 => (intro w hSw; (try dsimp only at hSw); simp only [List.getElem_toArray, List.getElem_cons_zero, List.getElem_cons_succ]; go_simp; (try with_reducible rfl))
    (try simp only [Act.put, List.getElem_toArray, List.getElem_cons_zero, List.getElem_cons_succ, List.setIfInBounds_toArray, List.set_cons_zero, List.set_cons_succ])
    refine wpAnyH_take (i := 2) (v := ?v28) rfl (by kernel_rfl) (by kernel_rfl) (by kernel_rfl) (fun _ _ _ h => h) (Or.inl ⟨by rfl, ?hy28⟩) (by assumption) ?rest28
    case hy28 => (intro w hSw; (try dsimp only at hSw); simp only [List.getElem_toArray, List.getElem_cons_zero, List.getElem_cons_succ]; go_simp; (try with_reducible rfl))
    (try simp only [Act.put, List.getElem_toArray, List.getElem_cons_zero, List.getElem_cons_succ, List.setIfInBounds_toArray, List.set_cons_zero, List.set_cons_succ])
    refine wpAnyH_take (i := 3) (v := ?v29) rfl (by kernel_rfl) (by kernel_rfl) (by kernel_rfl) (fun _ _ _ h => h) (Or.inl ⟨by rfl, ?hy29⟩) (by assumption) ?rest29
    case hy29 => (intro w hSw; (try dsimp only at hSw); simp only [List.getElem_toArray, List.getElem_cons_zero, List.getElem_cons_succ]; go_simp; (try with_reducible rfl))
    (try simp only [Act.put, List.getElem_toArray, List.getElem_cons_zero, List.getElem_cons_succ, List.setIfInBounds_toArray, List.set_cons_zero, List.set_cons_succ])
    refine wpAnyH_take (i := 4) (v := ?v30) rfl (by kernel_rfl) (by kernel_rfl) (by kernel_rfl) (fun _ _ _ h => h) (Or.inl ⟨by rfl, ?hy30⟩) (by assumption) ?rest30
    case hy30 => (intro w hSw; (try dsimp only at hSw); simp only [List.getElem_toArray, List.getElem_cons_zero, List.getElem_cons_succ]; go_simp; (try with_reducible rfl))
    (try simp only [Act.put, List.getElem_toArray, List.getElem_cons_zero, List.getElem_cons_succ, List.setIfInBounds_toArray, List.set_cons_zero, List.set_cons_succ])
    refine wpAnyH_take (i := 5) (v := ?v31) rfl (by kernel_rfl) (by kernel_rfl) (by kernel_rfl) (fun _ _ _ h => h) (Or.inl ⟨by rfl, ?hy31⟩) (by assumption) ?rest31
    case hy31 => (intro w hSw; (try dsimp only at hSw); simp only [List.getElem_toArray, List.getElem_cons_zero, List.getElem_cons_succ]; go_simp; (try with_reducible rfl))
    (try simp only [Act.put, List.getElem_toArray, List.getElem_cons_zero, List.getElem_cons_succ, List.setIfInBounds_toArray, List.set_cons_zero, List.set_cons_succ])
    refine wpAnyH_take (i := 6) (v := ?v32) rfl (by kernel_rfl) (by kernel_rfl) (by kernel_rfl) (fun _ _ _ h => h) (Or.inl ⟨by rfl, ?hy32⟩) (by assumption) ?rest32
    case hy32 => (intro w hSw; (try dsimp only at hSw); simp only [List.getElem_toArray, List.getElem_cons_zero, List.getElem_cons_succ]; go_simp; (try with_reducible rfl))
    (try simp only [Act.put, List.getElem_toArray, List.getElem_cons_zero, List.getElem_cons_succ, List.setIfInBounds_toArray, List.set_cons_zero, List.set_cons_succ])
    refine wpAnyH_ready (rs := [7]) (by kernel_rfl) (by simp) ?_
    refine AllReadyH.cons rfl (fun KK hK => ?_) AllReadyH.nil
    simp only [List.getElem_toArray, List.getElem_cons_zero, List.getElem_cons_succ]
    go_simp
    (try rw [HQ64.out])
    refine (give_any HR4d.out.tbl HR4d.out.tab ((a / 64 : Nat) : Int)).mono ?_
    rintro e w5 ⟨rfl, hmt, hot⟩
    refine hK.out _ _ ?hS33 (fun hHeld2 => ?rest33)
    case hS33 => exact ⟨hot.cell hHeld.1 (by have := HD.out; omega), hot.cell hHeld.2.1 (by have := HD.out; omega), hot.cell hHeld.2.2.1 (by have := HD.out; omega), hot.cell hHeld.2.2.2.1 (by have := HD.out; omega), hot.cell hHeld.2.2.2.2.1 (by have := HD.out; omega), hot.cell hHeld.2.2.2.2.2 (by have := HD.out; omega)⟩
    clear hK KK
    (try clear hHeld)
    have hHeld := hHeld2
    clear hHeld2
    (try simp only [Act.put, List.getElem_toArray, List.getElem_cons_zero, List.getElem_cons_succ, List.setIfInBounds_toArray, List.set_cons_zero, List.set_cons_succ])
    refine wpAnyH_done (by kernel_rfl) ?_ _
    clear hHeld
    go_wp2
    have HR5 := HR4d.out.setT hot hmt
    refine bodyPost_end (results_none Tryd.results68 _ _ _) rfl ⟨⟨_, rfl⟩, HR5.congr ?_, ((H0.out.any lo hi).trans HO4.out).trans ((((Out.refl 0 0 _).drew).any lo hi).trans (HR4d.out.wide (i := 10) (by omega) hot))⟩
    refine Raw.eq rfl ?_ rfl ?_ rfl rfl rfl
    · show _ = if 32 < z then _ else _; rw [if_pos HZ.out]
    · exact hPe.out
  · have hpz : pagesV z = 0 := by unfold pagesV; rw [if_neg (by omega)]
    have HZ := hid_mk hz
    rw [hpz] at HPg
    clear hpz hz
    go_wp2_with (refine (HPg.out _).mono ?_; rintro e w4 ⟨rfl, ho4⟩)
    go_wp2
    refine bodyPost_end (results_none Tryd.results68 _ _ _) rfl ⟨⟨_, rfl⟩, (HR3.out.quiet ho4).congr ?_, ((H0.out.any lo hi).trans HO3.out).trans (ho4.any lo hi)⟩
    refine Raw.eq rfl ?_ rfl ?_ rfl rfl rfl
    · show _ = if 32 < z then _ else _; rw [if_neg (by have := HZ.out; omega)]
    · exact hPe.out
end
end Go.Proofs.YtjbbkeoolodeaabDoor
namespace Go.Proofs.YtjbbkeoolodeaabDoor
open Go.RowKit
set_option linter.unusedVariables false
set_option linter.unusedSimpArgs false
section
variable {w : World} {lo hi n cap : Nat} {s : Nat → Nat} {r : Raw}
set_option maxRecDepth 100000 in
set_option maxHeartbeats 4000000 in
theorem empty_any (h : RawAt w lo hi s n cap r) {p : Nat} (hp : p < n) :
    Calls Tryd.prog 89 #[.pointer (some ⟨s 14, 0, none⟩), .int .i64 (p : Int)] w fun e w' => e = .returned (.bool (cntR r.P (64 * p) (64 * p + 64) == 0)) ∧ Out 0 0 w w' := by
  have HD : Hid (n ≤ 4096 ∧ p < n) := ⟨h.n2, hp⟩
  obtain ⟨d0, d1, d2, d3, d4, d5⟩ := h.cells
  have HP := hid_mk h.places
  have HW1 : Hid (wrap64 ((p : Int) * 64) = ((64 * p : Nat) : Int)) := by show _ = _; have := HD.out; unfold wrap64; omega
  have HW2 : Hid (wrap64 (((64 * p : Nat) : Int) + 64) = ((64 * p + 64 : Nat) : Int)) := by show _ = _; have := HD.out; unfold wrap64; omega
  have HC := hid_mk (countRange_any HP.out ((64 * p : Nat) : Int) ((64 * p + 64 : Nat) : Int) (by have := HD.out; omega))
  have HE : Hid (cntR r.P (((64 * p : Nat) : Int)).toNat (min ((64 * p + 64 : Nat) : Int) ((64 * n : Nat) : Int)).toNat = cntR r.P (64 * p) (64 * p + 64)) := by
    show _ = _
    congr 1
    have := HD.out
    omega
  clear h hp
  go_enter Tryd.func89, Tryd.ntmps89
  go_wp2_with (rw [HW1.out, HW2.out]; refine HC.out.mono ?_; rintro e w2 ⟨rfl, ho⟩; rw [HE.out])
  go_ret
  exact ⟨ret_bool (by rw [Bool.eq_iff_iff]; simp), ho⟩
end
end Go.Proofs.YtjbbkeoolodeaabDoor
namespace Go.Proofs.YtjbbkeoolodeaabDoor
open Go.RowKit
set_option linter.unusedVariables false
set_option linter.unusedSimpArgs false

/-- how a round may be left -/
def rPo (D : Nat) (W2 : World) (J : World → Prop) (Kx : Code → World → Prop) : Exit → Act → World → Prop
  | .normal, _, W => Out 0 D W2 W ∧ J W
  | .ret, _, W => Out 0 D W2 W ∧ Kx .ret W
  | .exit id, _, W => Out 0 D W2 W ∧ Kx (.exit id) W
  | .goto t, _, W => Out 0 D W2 W ∧ Kx (.goto t) W
  | .panic _, _, _ => False
  | .outgrown, _, _ => False
theorem out_chain {D : Nat} {W Wa W2 W3 W' : World} (h1 : Out 0 D W Wa) (h2 : Out (D + 1) (D + 2) Wa W2) (h3 : Out 0 D W2 W3) (h4 : Out (D + 1) (D + 2) W3 W') : Out 0 (D + 2) W W' :=
  ((h1.wide (Nat.le_refl _) (by omega)).trans (h2.wide (Nat.zero_le _) (by omega))).trans ((h3.wide (Nat.le_refl _) (by omega)).trans (h4.wide (Nat.zero_le _) (by omega)))
theorem heap_chain {D : Nat} {W Wa W2 W3 W' : World} {o : Obj} (h1 : Out 0 D W Wa) (h2 : Out (D + 1) (D + 2) Wa W2) (h3 : Out 0 D W2 W3) (h4 : Out (D + 1) (D + 2) W3 W') (h : W.heap[D]? = some o) : W'.heap[D]? = some o :=
  h4.heap (h3.heap (h2.heap (h1.heap h (by omega)) (by omega)) (by omega)) (by omega)
theorem round_of {P : Program} {a : Act} {ps : Array Tmp} {assign body : Code} {D : Nat} {rec : LoopState → Option Code → Loop} {W : World} {args : Array Value} {J' : World → Prop} {Kx : Code → World → Prop}
    (hrec : RecOf a ps assign body D rec) (hd : W.heap[D]? = some (.deferred (some []))) (hl : W.heap[D + 1]? = some (.loop (rec .ready none))) (hs : args.size = ps.size)
    (hq : ∀ W W' x y, J' W → Out x y W W' → (D ≤ x ∨ y = 0) → J' W') (hqX : ∀ c W W' x y, Kx c W → Out x y W W' → D ≤ x → Kx c W')
    (h : assign.wpIn (Fence.wide.inRound (D + 1)) 0 P (Exit.then (fun a1 Wa => Out 0 D W Wa ∧ ∀ W2, Out (D + 1) (D + 2) Wa W2 → body.wpIn (Fence.wide.inRound (D + 1)) 0 P (rPo D W2 J' Kx) a1 W2) (fun _ _ _ => False))
      { tmps := (ps.zip args).foldl (fun t (p, v) => t.setIfInBounds p v) a.tmps, defers := [] } W) :
    YieldAt Fence.wide 0 P (D + 1) args W fun e W' => Out 0 (D + 2) W W' ∧ ((e = .returned (.bool true) ∧ J' W' ∧ W'.heap[D]? = some (.deferred (some [])) ∧ W'.heap[D + 1]? = some (.loop (rec .ready none))) ∨
      (e = .returned (.bool false) ∧ ∃ c, Kx c W' ∧ W'.heap[D]? = some (.deferred (some [])) ∧ W'.heap[D + 1]? = some (.loop (rec .done (some c))))) := by
  refine round_any hrec hl hs (wpIn_mono h ?_)
  rintro e a1 Wa he
  cases e with
  | normal =>
    obtain ⟨o1, hb⟩ := he
    refine ⟨o1.heap hl (.inr (by omega)), fun W2 o2 hl2 => wpIn_mono (hb W2 o2) ?_⟩
    rintro e2 a2 W3 hp
    cases e2 with
    | normal => exact ⟨hp.1.heap hl2 (.inr (by omega)), fun W' o4 hl4 => ⟨out_chain o1 o2 hp.1 o4, .inl ⟨rfl, hq _ _ _ _ hp.2 o4 (.inl (by omega)), heap_chain o1 o2 hp.1 o4 hd, hl4⟩⟩⟩
    | ret => exact ⟨hp.1.heap hl2 (.inr (by omega)), fun W' o4 hl4 => ⟨out_chain o1 o2 hp.1 o4, .inr ⟨rfl, _, hqX _ _ _ _ _ hp.2 o4 (by omega), heap_chain o1 o2 hp.1 o4 hd, hl4⟩⟩⟩
    | exit id => exact ⟨hp.1.heap hl2 (.inr (by omega)), fun W' o4 hl4 => ⟨out_chain o1 o2 hp.1 o4, .inr ⟨rfl, _, hqX _ _ _ _ _ hp.2 o4 (by omega), heap_chain o1 o2 hp.1 o4 hd, hl4⟩⟩⟩
    | goto t => exact ⟨hp.1.heap hl2 (.inr (by omega)), fun W' o4 hl4 => ⟨out_chain o1 o2 hp.1 o4, .inr ⟨rfl, _, hqX _ _ _ _ _ hp.2 o4 (by omega), heap_chain o1 o2 hp.1 o4 hd, hl4⟩⟩⟩
    | panic ch => exact hp.elim
    | outgrown => exact hp.elim
  | ret => exact he.elim
  | exit id => exact he.elim
  | goto t => exact he.elim
  | panic ch => exact he.elim
  | outgrown => exact he.elim
/-- for b := range s.All() -/
theorem overAll {lo hi n cap g : Nat} {s : Nat → Nat} {op : Operand} {ps : Array Tmp} {assign body : Code} {Q : Exit → Act → World → Prop} {a : Act} {w : World}
    (hg : a.eval op = .func (.func 49) #[] #[.pointer (some ⟨g, 0, none⟩)]) (hps : ps.size = 1)
    (J : Nat → World → Prop) (K : World → Prop) (Kx : Code → World → Prop)
    (hm : ∀ p W, J p W → p ≤ 64 * n ∧ ∃ r, RawAt W lo hi s n cap r ∧ Told r ∧ Box W g 30 (.pointer (some ⟨s 14, 0, none⟩)))
    (hq : ∀ p W W' x y, J p W → Out x y W W' → (w.heap.size ≤ x ∨ y = 0) → J p W')
    (hqK : ∀ W W' x y, K W → Out x y W W' → w.heap.size ≤ x → K W')
    (hqX : ∀ c W W' x y, Kx c W → Out x y W W' → w.heap.size ≤ x → Kx c W')
    (hy : ∀ p W r (k : Nat) b, J p W → RawAt W lo hi s n cap r → nxr r.P (64 * n) p = k → r.M (k : Int) = some b → w.heap.size + 2 ≤ W.heap.size →
      assign.wpIn (Fence.wide.inRound (w.heap.size + 1)) 0 Tryd.prog (Exit.then (fun a1 Wa => Out 0 w.heap.size W Wa ∧ ∀ W2, Out (w.heap.size + 1) (w.heap.size + 2) Wa W2 → body.wpIn (Fence.wide.inRound (w.heap.size + 1)) 0 Tryd.prog (rPo w.heap.size W2 (J (k + 1)) Kx) a1 W2) (fun _ _ _ => False))
        { tmps := (ps.zip #[blkV k b]).foldl (fun t (p, v) => t.setIfInBounds p v) a.tmps, defers := [] } W)
    (he : ∀ p W r, J p W → RawAt W lo hi s n cap r → nxr r.P (64 * n) p = -1 → K W) (h0 : J 0 w)
    (hdone : ∀ W, K W → W.heap[w.heap.size]? = some (.deferred (some [])) → Q .normal { a with defers := { target := .collected w.heap.size, args := #[] } :: a.defers } W)
    (hstop : ∀ c W, Kx c W → W.heap[w.heap.size]? = some (.deferred (some [])) → c.wpIn Fence.wide 0 Tryd.prog Q { a with defers := { target := .collected w.heap.size, args := #[] } :: a.defers } W) :
    (Code.rangeFunc op ps assign body).wpIn Fence.wide 0 Tryd.prog Q a w := by
  refine range_any hg (enters_of Tryd.func49 (by kernel_rfl) rfl) K Kx ?H (fun W W' hK ho hd => hdone W' (hqK _ _ _ _ hK ho (by omega)) hd) (fun c W W' hK ho hd => hstop c W' (hqX _ _ _ _ _ hK ho (by omega)) hd)
  intro rec hrec W1 hW1
  have ho : Out 0 0 w W1 := by rw [hW1]; exact ((Out.refl 0 0 w).alloc _).alloc _
  have hs : W1.heap.size = w.heap.size + 2 := by rw [hW1]; simp
  have hd : W1.heap[w.heap.size]? = some (.deferred (some [])) := by rw [hW1]; exact two_first
  have hl : W1.heap[w.heap.size + 1]? = some (.loop (rec .ready none)) := by rw [hW1]; exact heap_alloc2_new _ _ _
  clear hW1
  refine (sAll_yield (lo := lo) (hi := hi) (n := n) (cap := cap) (s := s) (g := g) (l := w.heap.size + 1)
    (fun p W => J p W ∧ W.heap[w.heap.size]? = some (.deferred (some [])) ∧ W.heap[w.heap.size + 1]? = some (.loop (rec .ready none)))
    (fun W => K W ∧ W.heap[w.heap.size]? = some (.deferred (some [])) ∧ W.heap[w.heap.size + 1]? = some (.loop (rec .ready none)))
    (fun W => ∃ c, Kx c W ∧ W.heap[w.heap.size]? = some (.deferred (some [])) ∧ W.heap[w.heap.size + 1]? = some (.loop (rec .done (some c)))) (w := W1) ?m ?q ?qj ?qx ?y ?e ?z).mono ?_
  case m => exact fun p W h => hm p W h.1
  case q => exact fun p W W' x y h o hx => ⟨hq p W W' x y h.1 o (by omega), o.heap h.2.1 (by omega), o.heap h.2.2 (by omega)⟩
  case qj => exact fun W W' x y h o hx => ⟨hqK W W' x y h.1 o (by omega), o.heap h.2.1 (by omega), o.heap h.2.2 (by omega)⟩
  case qx => rintro W W' x y ⟨c, h1, h2, h3⟩ o hx; exact ⟨c, hqX c W W' x y h1 o (by omega), o.heap h2 (by omega), o.heap h3 (by omega)⟩
  case y =>
    rintro p W r k b ⟨hj, hd1, hl1⟩ hr hk hb
    rw [hs]
    refine round_of hrec hd1 hl1 (by simp [hps]) (hq (k + 1)) hqX (hy p W r k b hj hr hk hb ?_)
    have := heap_lt hl1
    omega
  case e => exact fun p W r h hr hk => ⟨he p W r h.1 hr hk, h.2⟩
  case z => exact ⟨hq 0 w W1 0 0 h0 ho (.inr rfl), hd, hl⟩
  rintro e W ⟨hv, ⟨h1, h2, h3⟩ | ⟨c, h1, h2, h3⟩⟩
  · exact ⟨hv, h2, .inl ⟨h1, h3⟩⟩
  · exact ⟨hv, h2, .inr ⟨c, h1, h3⟩⟩
/-- two readings of one space agree -/
theorem mp_one {w : World} {b : Nat} {f f' : Int → Option Value} (h : MpAt w b f) (h' : MpAt w b f') : f = f' := by
  obtain ⟨es, cl, hb, _, _, h1⟩ := h
  obtain ⟨es', cl', hb', _, _, h2⟩ := h'
  rw [hb] at hb'
  simp at hb'
  obtain ⟨rfl, rfl⟩ := hb'
  funext a
  apply Option.ext
  intro v
  rw [h1 a v, h2 a v]
theorem raw_one {w : World} {lo hi n cap : Nat} {s : Nat → Nat} {r r' : Raw} (h : RawAt w lo hi s n cap r) (h' : RawAt w lo hi s n cap r') : r.P = r'.P ∧ r.M = r'.M := by
  refine ⟨MapAt.one h.places h'.places, ?_⟩
  have e := mp_one h.objs h'.objs
  funext a
  have ea := congrFun e a
  unfold mapM at ea
  cases x : r.M a with
  | none =>
    rw [x] at ea
    cases y : r'.M a with
    | none => rfl
    | some b => rw [y] at ea; cases ea
  | some b =>
    rw [x] at ea
    cases y : r'.M a with
    | none => rw [y] at ea; cases ea
    | some c =>
      rw [y] at ea
      obtain ⟨b1, b2, b3, b4⟩ := b
      obtain ⟨c1, c2, c3, c4⟩ := c
      simp [blkV] at ea
      obtain ⟨rfl, rfl, rfl, rfl⟩ := ea
      rfl
end Go.Proofs.YtjbbkeoolodeaabDoor
namespace Go.Proofs.YtjbbkeoolodeaabDoor
open Go.RowKit
attribute [local go_sem] Oper.semAt_some
set_option linter.unusedVariables false
set_option linter.unusedSimpArgs false

/-- word i lies in the room of an object -/
def inRm (r : Raw) (i : Nat) : Bool := (List.range (i + 1)).any fun a => r.P a && (match r.M (a : Int) with | some b => decide (i < a + roomN b.2.1) | none => false)
theorem inRm_iff {r : Raw} {i : Nat} : inRm r i = true ↔ ∃ a b, a ≤ i ∧ r.P a = true ∧ r.M (a : Int) = some b ∧ i < a + roomN b.2.1 := by
  unfold inRm
  rw [List.any_eq_true]
  constructor
  · rintro ⟨a, ha, h⟩
    rw [List.mem_range] at ha
    rw [Bool.and_eq_true] at h
    cases e : r.M (a : Int) with
    | none => rw [e] at h; exact absurd h.2 (by simp)
    | some b => rw [e] at h; exact ⟨a, b, by omega, h.1, e, by simpa using h.2⟩
  · rintro ⟨a, b, h1, h2, h3, h4⟩
    refine ⟨a, by rw [List.mem_range]; omega, ?_⟩
    rw [h2, h3]
    simpa using h4
/-- those below f are wiped -/
def wpW (r : Raw) (f : Nat) : Nat → Int := fun i => if i < f ∧ inRm r i = false then 0 else r.W i
theorem wp_zero (r : Raw) : wpW r 0 = r.W := by funext i; unfold wpW; rw [if_neg (by omega)]
theorem wp_gap {r : Raw} {f k : Nat} (h : f ≤ k) (hz : ∀ i, f ≤ i → i < k → inRm r i = false) : zeroW (wpW r f) f (k - f) = wpW r k := by
  funext i
  unfold zeroW wpW
  by_cases e : f ≤ i ∧ i < f + (k - f)
  · rw [if_pos e, if_pos ⟨by omega, hz i e.1 (by omega)⟩]
  · rw [if_neg e]
    by_cases e2 : i < f ∧ inRm r i = false
    · rw [if_pos e2, if_pos ⟨by omega, e2.2⟩]
    · rw [if_neg e2, if_neg (fun h' => e2 ⟨by omega, h'.2⟩)]
theorem wp_room {r : Raw} {k m : Nat} (hz : ∀ i, k ≤ i → i < k + m → inRm r i = true) : wpW r k = wpW r (k + m) := by
  funext i
  unfold wpW
  by_cases e : i < k + m ∧ inRm r i = false
  · have : i < k := by
      by_cases e2 : i < k
      · exact e2
      · have := hz i (by omega) e.1; rw [e.2] at this; cases this
    rw [if_pos ⟨this, e.2⟩, if_pos e]
  · rw [if_neg e, if_neg (fun h' => e ⟨by omega, h'.2⟩)]
/-- rooms lie in the arena, one behind the other -/
def Rooms (n : Nat) (r : Raw) : Prop := ∀ a b, r.P a = true → r.M (a : Int) = some b → 1 ≤ b.2.1 ∧ b.2.1 ≤ 1024 ∧ a + roomN b.2.1 ≤ 64 * n ∧ ∀ a', a < a' → r.P a' = true → a + roomN b.2.1 ≤ a'
/-- at place p the loop has come to f -/
structure At (n : Nat) (r : Raw) (p f : Nat) : Prop where
  le : f ≤ 64 * n
  below : ∀ a b, a < p → r.P a = true → r.M (a : Int) = some b → a + roomN b.2.1 ≤ f
  above : ∀ a, p ≤ a → r.P a = true → f ≤ a
theorem At.gap {n : Nat} {r : Raw} {p f k : Nat} (h : At n r p f) (hz : ∀ j, p ≤ j → j < k → r.P j = false) : ∀ i, f ≤ i → i < k → inRm r i = false := by
  intro i h1 h2
  cases e : inRm r i with
  | false => rfl
  | true =>
    obtain ⟨a, b, a1, a2, a3, a4⟩ := inRm_iff.1 e
    by_cases hp : a < p
    · have := h.below a b hp a2 a3; omega
    · rw [hz a (by omega) (by omega)] at a2; cases a2
theorem At.step {n : Nat} {r : Raw} {p f k : Nat} {b : Blk} (hR : Rooms n r) (h : At n r p f) (hp : p ≤ k) (hz : ∀ j, p ≤ j → j < k → r.P j = false) (hk : r.P k = true) (hb : r.M (k : Int) = some b) : At n r (k + 1) (k + roomN b.2.1) := by
  obtain ⟨_, _, h3, h4⟩ := hR k b hk hb
  refine ⟨h3, fun a b' ha hPa hMa => ?_, fun a ha hPa => h4 a (by omega) hPa⟩
  by_cases e : a = k
  · subst e; rw [hb] at hMa; cases hMa; exact Nat.le_refl _
  · by_cases e2 : a < p
    · have := h.below a b' e2 hPa hMa
      have := h.above k hp hk
      omega
    · rw [hz a (by omega) (by omega)] at hPa; cases hPa
theorem room_in {r : Raw} {k : Nat} {b : Blk} (hk : r.P k = true) (hb : r.M (k : Int) = some b) : ∀ i, k ≤ i → i < k + roomN b.2.1 → inRm r i = true := fun i h1 h2 => inRm_iff.2 ⟨k, b, h1, hk, hb, h2⟩
theorem islice_low (bw n cap lo : Nat) (h1 : lo ≤ n) : ∃ o cp : Nat, (∀ wx, (Instr.slice 27 (.slice (some ⟨bw, 0, none⟩) n cap) (some (.int .i64 (lo : Int))) none none).run Tryd.prog wx = .ok (.slice (some ⟨bw, o, none⟩) (n - lo) cp) wx) ∧ (0 < n - lo → cap = lo ∨ o = lo) := by
  by_cases e : cap = lo
  · refine ⟨0, cap - lo, fun wx => ?_, fun h => .inl e⟩
    rw [run_slice_l wx 27 _ n cap (by rw [elem_ints]; exact Tryd.underlying27) .i64 (lo : Int) (by omega) (by omega), elem_ints, size_int]
    simp [Result.andThen, sliced, e]
  · refine ⟨lo, cap - lo, fun wx => ?_, fun h => .inr rfl⟩
    rw [run_slice_l wx 27 _ n cap (by rw [elem_ints]; exact Tryd.underlying27) .i64 (lo : Int) (by omega) (by omega), elem_ints, size_int]
    have e2 : (⟨bw, 0, none⟩ : Addr).add lo = ⟨bw, lo, none⟩ := by rw [Addr.add_lit, Nat.zero_add]
    simp [Result.andThen, sliced, e, e2]
set_option maxRecDepth 100000 in
set_option maxHeartbeats 4000000 in
theorem wipe_any {w : World} {lo hi n cap : Nat} {s : Nat → Nat} {r : Raw} (h : RawAt w lo hi s n cap r) (hT : Told r) (hR : Rooms n r) :
    Calls Tryd.prog 69 #[.pointer (some ⟨s 14, 0, none⟩)] w fun e w' => (∃ v, e = .returned v) ∧ RawAt w' lo hi s n cap { r with W := wpW r (64 * n) } ∧ Out lo hi w w' := by
  have HR0 := hid_mk h
  have HTo := hid_mk hT
  have HRo := hid_mk hR
  have h11 : s 11 < hi := by have := (h.inn 11 (by omega)).2; simp [ln] at this; omega
  have h14 : s 14 < hi ∧ s 11 ≠ s 14 := by have a := (h.inn 14 (by omega)).2; have b := h.apart 11 14 (by omega) (by omega) (by omega); simp [ln] at a b; omega
  have HT : Hid (hi ≤ w.heap.size ∧ 4 ≤ w.heap.size ∧ s 11 < hi ∧ s 14 < hi ∧ s 11 ≠ s 14 ∧ 4 ≤ lo ∧ n ≤ 4096 ∧ 1 ≤ n ∧ 64 * n ≤ cap) := ⟨h.top, h.tab.lt, h11, h14.1, h14.2, h.glob, h.n2, h.n1, h.capn⟩
  have HL := hid_mk (fun w => spAll_any (s 14) w)
  clear h h11 h14 hT hR
  refine (callsIn_wide (n := 0)).1 ?_
  refine callsIn_of_wp_marks Tryd.func69 rfl trivial ?_ rfl
  simp only [Tryd.ntmps69, List.size_toArray, List.length_cons, List.length_nil, Nat.reduceAdd, Nat.reduceSub, Array.replicate_succ, Array.replicate_zero, List.push_toArray, List.append_toArray, List.nil_append, List.cons_append]
  gi_wp2_with (refine ⟨trivial, rfl, ?_⟩; gi_at_call 31; refine (callsIn_wide.2 (HL.out _)).mono ?_; rintro e w1 ⟨rfl, rfl⟩)
  obtain ⟨W1, hW1⟩ : ∃ W1, ((w.alloc (.cells #[.pointer (some ⟨s 14, 0, none⟩)] 30)).alloc (.cells #[.int .i64 0] 3)).alloc (.cells #[.pointer (some ⟨s 14, 0, none⟩)] 30) = W1 := ⟨_, rfl⟩
  have hs1 : W1.heap.size = w.heap.size + 3 := by rw [← hW1]; simp
  have ho1 : Out 0 0 w W1 := by rw [← hW1]; exact ((((Out.refl 0 0 w).alloc _).alloc _).alloc _)
  have hy1 : Box W1 w.heap.size 30 (.pointer (some ⟨s 14, 0, none⟩)) := by rw [← hW1]; exact Box.alloc (w := (w.alloc (.cells #[.pointer (some ⟨s 14, 0, none⟩)] 30)).alloc (.cells #[.int .i64 0] 3)) two_first _
  have hx1 : Box W1 (w.heap.size + 1) 3 (.int .i64 0) := by rw [← hW1]; exact Box.alloc (w := (w.alloc (.cells #[.pointer (some ⟨s 14, 0, none⟩)] 30)).alloc (.cells #[.int .i64 0] 3)) (heap_alloc2_new _ _ _) _
  have hz1 : Box W1 (w.heap.size + 1 + 1) 30 (.pointer (some ⟨s 14, 0, none⟩)) := by
    rw [← hW1]
    have := heap_alloc_new ((w.alloc (.cells #[.pointer (some ⟨s 14, 0, none⟩)] 30)).alloc (.cells #[.int .i64 0] 3)) (.cells #[.pointer (some ⟨s 14, 0, none⟩)] 30)
    rw [World.size_alloc, World.size_alloc] at this
    exact this
  rw [hW1]
  clear hW1
  have HO1 := hid_mk ho1
  have HY1 := hid_mk hy1
  have HX1 := hid_mk hx1
  have HZ1 := hid_mk hz1
  clear ho1 hy1 hx1 hz1
  refine overAll (lo := lo) (hi := hi) (n := n) (cap := cap) (g := w.heap.size + 1 + 1) (s := s) rfl rfl
    (fun p W => p ≤ 64 * n ∧ ∃ f : Nat, At n r p f ∧ RawAt W lo hi s n cap { r with W := wpW r f } ∧ Box W w.heap.size 30 (.pointer (some ⟨s 14, 0, none⟩)) ∧ Box W (w.heap.size + 1) 3 (.int .i64 (f : Int)) ∧ Box W (w.heap.size + 1 + 1) 30 (.pointer (some ⟨s 14, 0, none⟩)) ∧ Out lo hi w W)
    (fun W => ∃ f : Nat, f ≤ 64 * n ∧ zeroW (wpW r f) f (64 * n - f) = wpW r (64 * n) ∧ RawAt W lo hi s n cap { r with W := wpW r f } ∧ Box W w.heap.size 30 (.pointer (some ⟨s 14, 0, none⟩)) ∧ Box W (w.heap.size + 1) 3 (.int .i64 (f : Int)) ∧ Out lo hi w W)
    (fun c W => False) ?hm1 ?hq1 ?hqk1 ?hqx1 ?hy1 ?he1 ?hz1 ?hdone1 ?hstop1
  case hm1 =>
    rintro p W ⟨hp, f, hA, a1, a2, a3, a4, a5⟩
    exact ⟨hp, _, a1, HTo.out, a4⟩
  case hq1 =>
    rintro p W W' x y ⟨hp, f, hA, a1, a2, a3, a4, a5⟩ o hx
    exact ⟨hp, f, hA, a1.kept o (by have := HT.out; omega) (by have := HT.out; omega), a2.kept o (by omega), a3.kept o (by omega), a4.kept o (by omega), out_far a5 o (by omega)⟩
  case hqk1 =>
    rintro W W' x y ⟨f, hA, hw, a1, a2, a3, a5⟩ o hx
    exact ⟨f, hA, hw, a1.kept o (by have := HT.out; omega) (by have := HT.out; omega), a2.kept o (by omega), a3.kept o (by omega), out_far a5 o (by omega)⟩
  case hqx1 => exact fun c W W' x y h _ _ => h
  case hstop1 => exact fun c W h _ => h.elim
  case hz1 => exact ⟨Nat.zero_le _, 0, ⟨Nat.zero_le _, fun a b h => absurd h (by omega), fun a _ _ => Nat.zero_le _⟩, by rw [wp_zero]; exact HR0.out.quiet HO1.out, HY1.out, HX1.out, HZ1.out, HO1.out.any _ _⟩
  case he1 =>
    rintro p W rr ⟨hp, f, hA, a1, a2, a3, a4, a5⟩ hr hk
    obtain ⟨eP, eM⟩ := raw_one a1 hr
    rw [← eP] at hk
    rcases nxr_cases r.P (64 * n) p with ⟨_, hz⟩ | ⟨i, hi', _⟩
    · exact ⟨f, hA.le, wp_gap hA.le (hA.gap hz), a1, a2, a3, a5⟩
    · have : (-1 : Int) = i := hk.symm.trans hi'
      omega
  case hy1 =>
    rintro p W rr k b ⟨hp, f, hA, a1, a2, a3, a4, a5⟩ hr hk hb hsz
    obtain ⟨eP, eM⟩ := raw_one a1 hr
    rw [← eP] at hk
    rw [← eM] at hb
    obtain ⟨hpk, hkn, hPk, hz⟩ : p ≤ k ∧ k < 64 * n ∧ r.P k = true ∧ ∀ j, p ≤ j → j < k → r.P j = false := by
      rcases nxr_cases r.P (64 * n) p with ⟨e1, _⟩ | ⟨i, e1, e2, e3, e4, e5⟩
      · have : (-1 : Int) = k := e1.symm.trans hk
        omega
      · have : i = k := by have : (i : Int) = k := e1.symm.trans hk; omega
        subst this
        exact ⟨e3 hp, e2, e4, e5⟩
    rw [hs1] at hsz ⊢
    have hb' : r.M (k : Int) = some b := hb
    have hRo := HRo.out k b hPk hb'
    have hfk := hA.above k hpk hPk
    have hgap := wp_gap hfk (hA.gap hz)
    have hroom := wp_room (room_in hPk hb')
    have hA' := hA.step HRo.out hpk hz hPk hb'
    obtain ⟨b1, b2, b3, b4⟩ := b
    have A := hid_mk (And.intro a1 (And.intro a2 (And.intro a3 (And.intro a4 (And.intro a5 (And.intro hA' (And.intro hgap hroom)))))))
    have HK := hid_mk (And.intro hpk (And.intro hkn (And.intro hfk hsz)))
    have HRk := hid_mk hRo
    clear a1 a2 a3 a4 a5 hA hr hk hb eP eM hz hPk hb' hRo hgap hroom hA' hp hpk hkn hfk hsz
    unfold blkV
    dsimp only at A HRk ⊢
    have hlt := HK.out.2.2.2
    obtain ⟨WA, hWA⟩ : ∃ WA, W.alloc (bo (k : Int) b1 b2 b3 b4) = WA := ⟨_, rfl⟩
    have HBA : Hid (WA.heap[W.heap.size]? = some (bo (k : Int) b1 b2 b3 b4)) := by rw [← hWA]; exact heap_alloc_new _ _
    have HOA : Hid (Out 0 0 W WA) := by rw [← hWA]; exact (Out.refl 0 0 W).alloc _
    obtain ⟨G, hG⟩ : ∃ G, W.heap.size = G := ⟨_, rfl⟩
    rw [hG] at HK hlt HBA
    unfold bo at hWA HBA
    gi_wp2
    (try rw [hWA])
    refine ⟨HOA.out.any _ _, ?_⟩
    (try rw [hG])
    clear hWA hG
    intro W2 o2
    have hoA := HOA.out.any 0 (w.heap.size + 3)
    have hr2 := (A.out.1.quiet HOA.out).kept o2 (.inl (by have := HT.out; omega)) (.inl (by have := HT.out; omega))
    have HY2 := hid_mk ((A.out.2.1.kept HOA.out (.inr (Nat.zero_le _))).kept o2 (.inl (by omega)))
    have HX2 := hid_mk ((A.out.2.2.1.kept HOA.out (.inr (Nat.zero_le _))).kept o2 (.inl (by omega)))
    have HZ2 := hid_mk ((A.out.2.2.2.1.kept HOA.out (.inr (Nat.zero_le _))).kept o2 (.inl (by omega)))
    have HB2 := hid_mk (o2.heap HBA.out (.inr (by omega)))
    have HO2 := hid_mk (out_far (out_far A.out.2.2.2.2.1 HOA.out (.inr rfl)) o2 (.inl (by omega)))
    obtain ⟨o, cp, hsl, hol⟩ := islice_at (s 11) (64 * n) cap f k (by have := HK.out; omega) (by have := HK.out; have := HT.out; omega)
    have HR2 := hid_mk (hr2.quiet ((Out.refl 0 0 _).drew))
    obtain ⟨w4, hcl, hr4, ho4⟩ := HR2.out.clear (a := f) (k := k - f) (o := o) (cp := cp) (by have := HK.out; omega) hol
    have HR4 : Hid (RawAt w4 lo hi s n cap { r with W := wpW r (k + roomN b2) }) := hr4.congr (by rw [← A.out.2.2.2.2.2.2.2, ← A.out.2.2.2.2.2.2.1])
    have HO4 := hid_mk ho4
    have c0 := HY2.out.cell
    have c1 := hr2.cells.1
    have c2 := HX2.out.cell
    obtain ⟨q0, _, q2, _, _⟩ := bo_facts HB2.out
    have f0 : (0 : Int) ≤ (f : Int) := by omega
    have f1 : (f : Int) ≤ (k : Int) := by have := HK.out; omega
    have f2 : (k : Int) ≤ (cap : Int) := by have := HK.out; have := HT.out; omega
    have HRoom := hid_mk (fun w' => room_any b2 HRk.out.1 HRk.out.2.1 w')
    have HWR : Hid (IntKind.i64.wrap ((k : Int) + ((roomN b2 : Nat) : Int)) = ((k + roomN b2 : Nat) : Int)) := by show _ = _; simp [IntKind.wrap, IntKind.signed, IntKind.bits]; have := HRk.out; have := HT.out; omega
    clear hr2 hr4 ho4 hlt hol hoA
    gi_wp2_with fail
    refine region_roundN (S := fun w' => w'.cell? ⟨w.heap.size, 0, none⟩ = some (.pointer (some ⟨s 14, 0, none⟩)) ∧ w'.cell? ⟨s 14, 0, none⟩ = some (.slice (some ⟨s 11, 0, none⟩) (64 * n) cap) ∧ w'.cell? ⟨w.heap.size + 1, 0, none⟩ = some (.int .i64 (f : Int)) ∧ w'.cell? ⟨G, 0, none⟩ = some (.int .i64 (k : Int))) (by kernel_rfl) (by kernel_rfl) ?hS9 (fun hHeld => ?rest9)
    case hS9 => exact ⟨c0, c1, c2, q0⟩
    refine wpAnyH_take (i := 0) (v := ?v10) rfl (by kernel_rfl) (by kernel_rfl) (by kernel_rfl) (fun _ _ _ h => h) (Or.inl ⟨by rfl, ?hy10⟩) (by assumption) ?rest10
    case hy10 => (intro w hSw; (try dsimp only at hSw); simp only [List.getElem_toArray, List.getElem_cons_zero, List.getElem_cons_succ]; go_simp; (try with_reducible rfl))
    (try simp only [Act.put, List.getElem_toArray, List.getElem_cons_zero, List.getElem_cons_succ, List.setIfInBounds_toArray, List.set_cons_zero, List.set_cons_succ])
    refine wpAnyH_take (i := 1) (v := ?v11) rfl (by kernel_rfl) (by kernel_rfl) (by kernel_rfl) (fun _ _ _ h => h) (Or.inl ⟨by rfl, ?hy11⟩) (by assumption) ?rest11
    case hy11 => (intro w hSw; (try dsimp only at hSw); simp only [List.getElem_toArray, List.getElem_cons_zero, List.getElem_cons_succ]; go_simp; (try with_reducible rfl))
    (try simp only [Act.put, List.getElem_toArray, List.getElem_cons_zero, List.getElem_cons_succ, List.setIfInBounds_toArray, List.set_cons_zero, List.set_cons_succ])
    refine wpAnyH_take (i := 2) (v := ?v12) rfl (by kernel_rfl) (by kernel_rfl) (by kernel_rfl) (fun _ _ _ h => h) (Or.inl ⟨by rfl, ?hy12⟩) (by assumption) ?rest12
    case hy12 => (intro w hSw; (try dsimp only at hSw); simp only [List.getElem_toArray, List.getElem_cons_zero, List.getElem_cons_succ]; go_simp; (try with_reducible rfl))
    (try simp only [Act.put, List.getElem_toArray, List.getElem_cons_zero, List.getElem_cons_succ, List.setIfInBounds_toArray, List.set_cons_zero, List.set_cons_succ])
    refine wpAnyH_take (i := 3) (v := ?v13) rfl (by kernel_rfl) (by kernel_rfl) (by kernel_rfl) (fun _ _ _ h => h) (Or.inl ⟨by rfl, ?hy13⟩) (by assumption) ?rest13
    case hy13 => (intro w hSw; (try dsimp only at hSw); simp only [List.getElem_toArray, List.getElem_cons_zero, List.getElem_cons_succ]; go_simp; (try with_reducible rfl))
    (try simp only [Act.put, List.getElem_toArray, List.getElem_cons_zero, List.getElem_cons_succ, List.setIfInBounds_toArray, List.set_cons_zero, List.set_cons_succ])
    refine wpAnyH_take (i := 4) (v := ?v14) rfl (by kernel_rfl) (by kernel_rfl) (by kernel_rfl) (fun _ _ _ h => h) (Or.inl ⟨by rfl, ?hy14⟩) (by assumption) ?rest14
    case hy14 => (intro w hSw; (try dsimp only at hSw); simp only [List.getElem_toArray, List.getElem_cons_zero, List.getElem_cons_succ]; go_simp; (try with_reducible rfl))
    (try simp only [Act.put, List.getElem_toArray, List.getElem_cons_zero, List.getElem_cons_succ, List.setIfInBounds_toArray, List.set_cons_zero, List.set_cons_succ])
    refine wpAnyH_take (i := 5) (v := ?v15) rfl (by kernel_rfl) (by kernel_rfl) (by kernel_rfl) (fun _ _ _ h => h) (Or.inl ⟨by rfl, ?hy15⟩) (by assumption) ?rest15
    case hy15 => (intro w hSw; (try dsimp only at hSw); simp only [List.getElem_toArray, List.getElem_cons_zero, List.getElem_cons_succ]; go_simp; (try with_reducible rfl))
    (try simp only [Act.put, List.getElem_toArray, List.getElem_cons_zero, List.getElem_cons_succ, List.setIfInBounds_toArray, List.set_cons_zero, List.set_cons_succ])
    refine wpAnyH_take (i := 6) (v := ?v16) rfl (by kernel_rfl) (by kernel_rfl) (by kernel_rfl) (fun _ _ _ h => h) (Or.inl ⟨by rfl, ?hy16⟩) (by assumption) ?rest16
    case hy16 => (intro w hSw; (try dsimp only at hSw); simp only [List.getElem_toArray, List.getElem_cons_zero, List.getElem_cons_succ]; go_simp; (try with_reducible rfl))
    (try simp only [Act.put, List.getElem_toArray, List.getElem_cons_zero, List.getElem_cons_succ, List.setIfInBounds_toArray, List.set_cons_zero, List.set_cons_succ])
    refine wpAnyH_take (i := 7) (v := ?v17) rfl (by kernel_rfl) (by kernel_rfl) (by kernel_rfl) (fun _ _ _ h => h) (Or.inl ⟨by rfl, ?hy17⟩) (by assumption) ?rest17
    case hy17 => (intro w hSw; (try dsimp only at hSw); simp only [List.getElem_toArray, List.getElem_cons_zero, List.getElem_cons_succ]; go_simp; (try with_reducible rfl))
    (try simp only [Act.put, List.getElem_toArray, List.getElem_cons_zero, List.getElem_cons_succ, List.setIfInBounds_toArray, List.set_cons_zero, List.set_cons_succ])
    refine wpAnyH_ready (rs := [8]) (by kernel_rfl) (by simp) ?_
    refine AllReadyH.cons rfl (fun KK hK => ?_) AllReadyH.nil
    simp only [List.getElem_toArray, List.getElem_cons_zero, List.getElem_cons_succ]
    go_simp
    refine hK.out _ _ ?hS18 (fun hHeld2 => ?rest18)
    case hS18 => exact ⟨HO4.out.cell hHeld.1 (by have := HT.out; have := HK.out; omega), HO4.out.cell hHeld.2.1 (by have := HT.out; have := HK.out; omega), HO4.out.cell hHeld.2.2.1 (by have := HT.out; have := HK.out; omega), HO4.out.cell hHeld.2.2.2 (by have := HT.out; have := HK.out; omega)⟩
    clear hK KK
    (try clear hHeld)
    have hHeld := hHeld2
    clear hHeld2
    (try simp only [Act.put, List.getElem_toArray, List.getElem_cons_zero, List.getElem_cons_succ, List.setIfInBounds_toArray, List.set_cons_zero, List.set_cons_succ])
    refine wpAnyH_done (by kernel_rfl) ?_ _
    clear hHeld
    simp only [noOut, onlyN]
    have hdr : Out (s 11) (s 11 + 1) W2 w4 := (((Out.refl 0 0 W2).drew).any _ _).trans HO4.out
    have HX4 := hid_mk (HX2.out.kept hdr (.inr (by have := HT.out; omega)))
    have HB4 := hid_mk (hdr.heap HB2.out (.inr (by have := HT.out; have := HK.out; omega)))
    have HOD := hid_mk hdr
    clear q0 q2 c0 c1 c2 hsl hcl hdr
    obtain ⟨q0, _, q2, _, _⟩ := bo_facts HB4.out
    gi_wp2_with fail
    refine region_roundN (S := fun w' => w'.cell? ⟨G, 0, none⟩ = some (.int .i64 (k : Int)) ∧ w'.cell? ⟨G, 2, none⟩ = some (.int .i64 b2)) (by kernel_rfl) (by kernel_rfl) ?hS1 (fun hHeld => ?rest1)
    case hS1 => exact ⟨q0, q2⟩
    refine wpAnyH_take (i := 0) (v := ?v2) rfl (by kernel_rfl) (by kernel_rfl) (by kernel_rfl) (fun _ _ _ h => h) (Or.inl ⟨by rfl, ?hy2⟩) (by assumption) ?rest2
    case hy2 => (intro w hSw; (try dsimp only at hSw); simp only [List.getElem_toArray, List.getElem_cons_zero, List.getElem_cons_succ]; go_simp; (try with_reducible rfl))
    (try simp only [Act.put, List.getElem_toArray, List.getElem_cons_zero, List.getElem_cons_succ, List.setIfInBounds_toArray, List.set_cons_zero, List.set_cons_succ])
    refine wpAnyH_take (i := 1) (v := ?v3) rfl (by kernel_rfl) (by kernel_rfl) (by kernel_rfl) (fun _ _ _ h => h) (Or.inl ⟨by rfl, ?hy3⟩) (by assumption) ?rest3
    case hy3 => (intro w hSw; (try dsimp only at hSw); simp only [List.getElem_toArray, List.getElem_cons_zero, List.getElem_cons_succ]; go_simp; (try with_reducible rfl))
    (try simp only [Act.put, List.getElem_toArray, List.getElem_cons_zero, List.getElem_cons_succ, List.setIfInBounds_toArray, List.set_cons_zero, List.set_cons_succ])
    refine wpAnyH_take (i := 2) (v := ?v4) rfl (by kernel_rfl) (by kernel_rfl) (by kernel_rfl) (fun _ _ _ h => h) (Or.inl ⟨by rfl, ?hy4⟩) (by assumption) ?rest4
    case hy4 => (intro w hSw; (try dsimp only at hSw); simp only [List.getElem_toArray, List.getElem_cons_zero, List.getElem_cons_succ]; go_simp; (try with_reducible rfl))
    (try simp only [Act.put, List.getElem_toArray, List.getElem_cons_zero, List.getElem_cons_succ, List.setIfInBounds_toArray, List.set_cons_zero, List.set_cons_succ])
    refine wpAnyH_take (i := 3) (v := ?v5) rfl (by kernel_rfl) (by kernel_rfl) (by kernel_rfl) (fun _ _ _ h => h) (Or.inl ⟨by rfl, ?hy5⟩) (by assumption) ?rest5
    case hy5 => (intro w hSw; (try dsimp only at hSw); simp only [List.getElem_toArray, List.getElem_cons_zero, List.getElem_cons_succ]; go_simp; (try with_reducible rfl))
    (try simp only [Act.put, List.getElem_toArray, List.getElem_cons_zero, List.getElem_cons_succ, List.setIfInBounds_toArray, List.set_cons_zero, List.set_cons_succ])
    refine wpAnyH_ready (rs := [4]) (by kernel_rfl) (by simp) ?_
    refine AllReadyH.cons rfl (fun KK hK => ?_) AllReadyH.nil
    simp only [List.getElem_toArray, List.getElem_cons_zero, List.getElem_cons_succ]
    go_simp
    refine (HRoom.out _).mono ?_
    rintro e w5 ⟨rfl, hoo⟩
    have hx5 := HX4.out.kept (((Out.refl 0 0 _).drew).trans hoo) (.inr (Nat.zero_le _))
    have e0 := hx5.cell
    have e1 := hx5.frozen
    have HX5 := hid_mk hx5
    have HOO := hid_mk hoo
    clear hx5
    refine hK.out _ _ ?hS6 (fun hHeld2 => ?rest6)
    case hS6 => exact ⟨hoo.cell hHeld.1 (.inr (Nat.zero_le _)), hoo.cell hHeld.2 (.inr (Nat.zero_le _))⟩
    clear hK KK
    (try clear hHeld)
    have hHeld := hHeld2
    clear hHeld2
    (try simp only [Act.put, List.getElem_toArray, List.getElem_cons_zero, List.getElem_cons_succ, List.setIfInBounds_toArray, List.set_cons_zero, List.set_cons_succ])
    refine wpAnyH_take (i := 5) (v := ?v7) rfl (by kernel_rfl) (by kernel_rfl) (by kernel_rfl) (fun _ _ _ h => h) (Or.inl ⟨by rfl, ?hy7⟩) (by assumption) ?rest7
    case hy7 => (intro w hSw; (try dsimp only at hSw); simp only [List.getElem_toArray, List.getElem_cons_zero, List.getElem_cons_succ]; go_simp; (try with_reducible rfl))
    (try simp only [Act.put, List.getElem_toArray, List.getElem_cons_zero, List.getElem_cons_succ, List.setIfInBounds_toArray, List.set_cons_zero, List.set_cons_succ])
    refine wpAnyH_ready (rs := [6]) (by kernel_rfl) (by simp) ?_
    refine AllReadyH.cons rfl (fun KK hK => ?_) AllReadyH.nil
    simp only [List.getElem_toArray, List.getElem_cons_zero, List.getElem_cons_succ]
    go_simp
    refine hK.out _ _ ?hS8 (fun hHeld2 => ?rest8)
    case hS8 => exact ⟨((Out.refl (w.heap.size + 1) (w.heap.size + 2) w5).setCell (.inl ⟨Nat.le_refl _, Nat.lt_succ_self _⟩) _).cell hHeld.1 (by have := HT.out; have := HK.out; omega), ((Out.refl (w.heap.size + 1) (w.heap.size + 2) w5).setCell (.inl ⟨Nat.le_refl _, Nat.lt_succ_self _⟩) _).cell hHeld.2 (by have := HT.out; have := HK.out; omega)⟩
    clear hK KK
    (try clear hHeld)
    have hHeld := hHeld2
    clear hHeld2
    (try simp only [Act.put, List.getElem_toArray, List.getElem_cons_zero, List.getElem_cons_succ, List.setIfInBounds_toArray, List.set_cons_zero, List.set_cons_succ])
    refine wpAnyH_done (by kernel_rfl) ?_ _
    clear hHeld
    simp only [noOut, onlyN]
    gi_wp2
    have hset := (Out.refl (w.heap.size + 1) (w.heap.size + 2) w5).setCell (p := ⟨w.heap.size + 1, 0, none⟩) (.inl ⟨Nat.le_refl _, Nat.lt_succ_self _⟩) (.int .i64 (IntKind.i64.wrap ((k : Int) + ((roomN b2 : Nat) : Int))))
    have hq5 : Out 0 0 w4 w5 := ((Out.refl 0 0 w4).drew).trans HOO.out
    have hbx := HX5.out.set (.int .i64 (IntKind.i64.wrap ((k : Int) + ((roomN b2 : Nat) : Int))))
    rw [HWR.out] at hbx hset
    (try rw [HWR.out])
    have hT := HT.out
    have hK := HK.out
    exact ⟨((HOD.out.wide (Nat.zero_le _) (by omega)).trans (hq5.any _ _)).trans (hset.wide (Nat.zero_le _) (by omega)), by omega, k + roomN b2, A.out.2.2.2.2.2.1, (HR4.out.quiet hq5).kept hset (.inl (by omega)) (.inl (by omega)), ((HY2.out.kept HOD.out (by omega)).kept hq5 (.inr (Nat.zero_le _))).kept hset (by omega), hbx, ((HZ2.out.kept HOD.out (by omega)).kept hq5 (.inr (Nat.zero_le _))).kept hset (by omega), out_far (out_far (HO2.out.trans ((((Out.refl 0 0 W2).drew).any lo hi).trans (HR2.out.wide (i := 11) (by omega) HO4.out))) hq5 (.inr rfl)) hset (.inl (by omega))⟩
  case hdone1 =>
    rintro W ⟨f, hf, hw, a1, a2, a3, a5⟩ hd
    rw [hs1] at hd
    have HD := hid_mk hd
    have HW := hid_mk hw
    have HR2 := hid_mk (a1.quiet ((Out.refl 0 0 _).drew))
    have HO2 := hid_mk a5
    have HF := hid_mk hf
    obtain ⟨o, cp, hsl, hol⟩ := islice_low (s 11) (64 * n) cap f hf
    obtain ⟨w4, hcl, hr4, ho4⟩ := HR2.out.clear (a := f) (k := 64 * n - f) (o := o) (cp := cp) (by omega) (fun h => (hol h).resolve_left (by have := HT.out; omega))
    have HR4 : Hid (RawAt w4 lo hi s n cap { r with W := wpW r (64 * n) }) := hr4.congr (by rw [← HW.out])
    have HO4 := hid_mk ho4
    have c0 := a2.cell
    have c1 := a1.cells.1
    have c2 := a3.cell
    have f0 : (0 : Int) ≤ (f : Int) := by omega
    have f1 : (f : Int) ≤ ((64 * n : Nat) : Int) := by omega
    have f2 : (f : Int) ≤ 64 * (n : Int) := by omega
    rw [hs1]
    clear hr4 ho4 hol hd hw hf a1 a2 a3 a5
    gi_wp2_with fail
    refine wpIn_only ?_
    refine wp_region_held_drew (S := fun w' => w'.cell? ⟨w.heap.size, 0, none⟩ = some (.pointer (some ⟨s 14, 0, none⟩)) ∧ w'.cell? ⟨s 14, 0, none⟩ = some (.slice (some ⟨s 11, 0, none⟩) (64 * n) cap) ∧ w'.cell? ⟨w.heap.size + 1, 0, none⟩ = some (.int .i64 (f : Int))) (by kernel_rfl) ?hS19 (fun hHeld => ?rest19)
    case hS19 => exact ⟨c0, c1, c2⟩
    refine wpAnyH_take (i := 0) (v := ?v20) rfl (by kernel_rfl) (by kernel_rfl) (by kernel_rfl) (fun _ _ _ h => h) (Or.inl ⟨by rfl, ?hy20⟩) (by assumption) ?rest20
    case hy20 => (intro w hSw; (try dsimp only at hSw); simp only [List.getElem_toArray, List.getElem_cons_zero, List.getElem_cons_succ]; go_simp; (try with_reducible rfl))
    (try simp only [Act.put, List.getElem_toArray, List.getElem_cons_zero, List.getElem_cons_succ, List.setIfInBounds_toArray, List.set_cons_zero, List.set_cons_succ])
    refine wpAnyH_take (i := 1) (v := ?v21) rfl (by kernel_rfl) (by kernel_rfl) (by kernel_rfl) (fun _ _ _ h => h) (Or.inl ⟨by rfl, ?hy21⟩) (by assumption) ?rest21
    case hy21 => (intro w hSw; (try dsimp only at hSw); simp only [List.getElem_toArray, List.getElem_cons_zero, List.getElem_cons_succ]; go_simp; (try with_reducible rfl))
    (try simp only [Act.put, List.getElem_toArray, List.getElem_cons_zero, List.getElem_cons_succ, List.setIfInBounds_toArray, List.set_cons_zero, List.set_cons_succ])
    refine wpAnyH_take (i := 2) (v := ?v22) rfl (by kernel_rfl) (by kernel_rfl) (by kernel_rfl) (fun _ _ _ h => h) (Or.inl ⟨by rfl, ?hy22⟩) (by assumption) ?rest22
    case hy22 => (intro w hSw; (try dsimp only at hSw); simp only [List.getElem_toArray, List.getElem_cons_zero, List.getElem_cons_succ]; go_simp; (try with_reducible rfl))
    (try simp only [Act.put, List.getElem_toArray, List.getElem_cons_zero, List.getElem_cons_succ, List.setIfInBounds_toArray, List.set_cons_zero, List.set_cons_succ])
    refine wpAnyH_take (i := 3) (v := ?v23) rfl (by kernel_rfl) (by kernel_rfl) (by kernel_rfl) (fun _ _ _ h => h) (Or.inl ⟨by rfl, ?hy23⟩) (by assumption) ?rest23
    case hy23 => (intro w hSw; (try dsimp only at hSw); simp only [List.getElem_toArray, List.getElem_cons_zero, List.getElem_cons_succ]; go_simp; (try with_reducible rfl))
    (try simp only [Act.put, List.getElem_toArray, List.getElem_cons_zero, List.getElem_cons_succ, List.setIfInBounds_toArray, List.set_cons_zero, List.set_cons_succ])
    refine wpAnyH_take (i := 4) (v := ?v24) rfl (by kernel_rfl) (by kernel_rfl) (by kernel_rfl) (fun _ _ _ h => h) (Or.inl ⟨by rfl, ?hy24⟩) (by assumption) ?rest24
    case hy24 => (intro w hSw; (try dsimp only at hSw); simp only [List.getElem_toArray, List.getElem_cons_zero, List.getElem_cons_succ]; go_simp; (try with_reducible rfl))
    (try simp only [Act.put, List.getElem_toArray, List.getElem_cons_zero, List.getElem_cons_succ, List.setIfInBounds_toArray, List.set_cons_zero, List.set_cons_succ])
    refine wpAnyH_take (i := 5) (v := ?v25) rfl (by kernel_rfl) (by kernel_rfl) (by kernel_rfl) (fun _ _ _ h => h) (Or.inl ⟨by rfl, ?hy25⟩) (by assumption) ?rest25
    case hy25 => (intro w hSw; (try dsimp only at hSw); simp only [List.getElem_toArray, List.getElem_cons_zero, List.getElem_cons_succ]; go_simp; (try with_reducible rfl))
    (try simp only [Act.put, List.getElem_toArray, List.getElem_cons_zero, List.getElem_cons_succ, List.setIfInBounds_toArray, List.set_cons_zero, List.set_cons_succ])
    refine wpAnyH_ready (rs := [6]) (by kernel_rfl) (by simp) ?_
    refine AllReadyH.cons rfl (fun KK hK => ?_) AllReadyH.nil
    simp only [List.getElem_toArray, List.getElem_cons_zero, List.getElem_cons_succ]
    go_simp
    refine hK.out _ _ ?hS26 (fun hHeld2 => ?rest26)
    case hS26 => exact ⟨HO4.out.cell hHeld.1 (by have := HT.out; omega), HO4.out.cell hHeld.2.1 (by have := HT.out; omega), HO4.out.cell hHeld.2.2 (by have := HT.out; omega)⟩
    clear hK KK
    (try clear hHeld)
    have hHeld := hHeld2
    clear hHeld2
    (try simp only [Act.put, List.getElem_toArray, List.getElem_cons_zero, List.getElem_cons_succ, List.setIfInBounds_toArray, List.set_cons_zero, List.set_cons_succ])
    refine wpAnyH_done (by kernel_rfl) ?_ _
    clear hHeld
    simp only [onlyN]
    gi_wp2
    have hT := HT.out
    have hdr : Out (s 11) (s 11 + 1) W w4 := (((Out.refl 0 0 W).drew).any _ _).trans HO4.out
    refine ⟨by simp, .inl ⟨_, _, rfl, run_takeDeferred (hdr.heap HD.out (.inr (by omega))), ?_⟩⟩
    exact ⟨_, results_none rfl _ _ _, ⟨_, rfl⟩, HR4.out.kept (out_putObj _ _ _) (by omega) (by omega), out_far (HO2.out.trans ((((Out.refl 0 0 W).drew).any lo hi).trans (HR2.out.wide (i := 11) (by omega) HO4.out))) (out_putObj _ _ _) (by omega)⟩
end Go.Proofs.YtjbbkeoolodeaabDoor
namespace Go.Proofs.YtjbbkeoolodeaabDoor
open Go.RowKit
set_option linter.unusedVariables false
set_option linter.unusedSimpArgs false

/-- the classes below i have no free block -/
def rsF (r : Raw) (i : Nat) : Raw := { r with F := fun d => if d < i then (fun _ => false) else r.F d }
def dlStep (n : Nat) (S0 : Nat → Int × Int × Int) (q : Raw) (i : Nat) : Raw :=
  if (S0 i).1 = 1 then if cntR q.P (64 * i) (64 * i + 64) == 0 then { q with S := gvS q.S n (i : Int) } else { q with F := fun d => if d = (S0 i).2.1.toNat then fuR q (S0 i).2.1.toNat i else q.F d } else q
/-- the pages below i are dealt -/
def dlR (n : Nat) (S0 : Nat → Int × Int × Int) (q : Raw) : Nat → Raw
  | 0 => q
  | i + 1 => dlStep n S0 (dlR n S0 q i) i
/-- the classes below c are linked -/
def lnR (n : Nat) (q : Raw) : Nat → Raw
  | 0 => q
  | c + 1 => { lnR n q c with W := linkR n (lnR n q c) c }
def dealR (n : Nat) (r : Raw) : Raw := lnR n (dlR n r.S (rsF r 8) n) 8
theorem rs_zero (r : Raw) : r = rsF r 0 := by
  unfold rsF
  refine Raw.eq rfl rfl ?_ rfl rfl rfl rfl
  funext d
  show r.F d = if d < 0 then (fun _ => false) else r.F d
  rw [if_neg (by omega)]
theorem rs_step (r : Raw) (c : Nat) : { rsF r c with F := fun d => if d = c then (fun _ => false) else (rsF r c).F d } = rsF r (c + 1) := by
  unfold rsF
  refine Raw.eq rfl rfl ?_ rfl rfl rfl rfl
  funext d
  show (if d = c then (fun _ => false) else if d < c then (fun _ => false) else r.F d) = if d < c + 1 then (fun _ => false) else r.F d
  by_cases e : d = c
  · rw [if_pos e, if_pos (by omega)]
  · rw [if_neg e]
    by_cases e2 : d < c
    · rw [if_pos e2, if_pos (by omega)]
    · rw [if_neg e2, if_neg (by omega)]
section
variable {w : World} {lo hi n cap : Nat} {s : Nat → Nat} {r : Raw}
set_option maxRecDepth 100000 in
set_option maxHeartbeats 4000000 in
theorem deal_any (h : RawAt w lo hi s n cap r) :
    Calls Tryd.prog 70 #[.pointer (some ⟨s 14, 0, none⟩)] w fun e w' => (∃ v, e = .returned v) ∧ RawAt w' lo hi s n cap (dealR n r) ∧ Out lo hi w w' := by
  have HR := hid_mk h
  have HT : Hid (hi ≤ w.heap.size ∧ n ≤ 4096 ∧ 1 ≤ n) := ⟨h.top, h.n2, h.n1⟩
  have HG := hid_mk h.tbl.good
  clear h
  go_enter Tryd.func70, Tryd.ntmps70
  go_wp2_with fail
  go_loopw [6] (fun u wr => ∃ i : Nat, u = .int .i64 (i : Int) ∧ i ≤ 8 ∧ RawAt wr lo hi s n cap (rsF r i) ∧ Out lo hi w wr) (fun u _ => ((8 : Int) - intOf u).toNat)
  case atStart => exact ⟨0, rfl, Nat.zero_le _, HR.out.congr (rs_zero r), Out.refl _ _ _⟩
  case round =>
    obtain ⟨i, rfl, i1, i2, i3⟩ := hrel
    have HR1 := hid_mk i2
    have HO1 := hid_mk i3
    have j0 : (0 : Int) ≤ (i : Int) := by omega
    by_cases hlt : (i : Int) < 8
    · have HC : Hid (i < 8) := by show _ < _; omega
      have dF := i2.cellF HC.out
      clear i2 i3
      go_wp2_with (go_at_call 88; refine (reset_any (HR1.out.free i HC.out)).mono ?_; rintro e w4 ⟨rfl, hm, ho⟩)
      have HR5 := HR1.out.setF HC.out ho hm
      have HO5 := HO1.out.trans (HR1.out.wide (i := i) (by have := HC.out; omega) (by unfold ln; rw [if_pos (by have := HC.out; omega)]; exact ho))
      refine ⟨⟨i + 1, by congr 1, by omega, HR5.congr (rs_step r i), HO5⟩, by simp [intOf]; omega⟩
    · have e : i = 8 := by omega
      subst e
      obtain ⟨d0, d1, d2, d3, d4, d5⟩ := i2.cells
      clear i2 i3
      go_wp2_with (go_at_call 34; refine (all_any HR1.out.tbl).mono ?_; rintro e w2 ⟨g, cap', rfl, hl, ho⟩)
      obtain ⟨hr, hb, _⟩ := hl.row
      have HP2 : Hid (PRow w2 g n r.S) := hr
      have HGg : Hid (hi ≤ g) := by show _ ≤ _; have := HT.out; have := HO1.out.size; omega
      have HR2 := hid_mk (HR1.out.quiet ho)
      have HO2 := hid_mk (HO1.out.trans (ho.any lo hi))
      clear hl ho hr hb HR1 HO1 d0 d1 d2 d3 d4 d5
      go_loopw [23] (fun u wr => ∃ i : Nat, u = .int .i64 (i : Int) ∧ i ≤ n ∧ RawAt wr lo hi s n cap (dlR n r.S (rsF r 8) i) ∧ PRow wr g n r.S ∧ Out lo hi w wr) (fun u _ => ((n : Int) - intOf u).toNat)
      case atStart => exact ⟨0, rfl, Nat.zero_le _, HR2.out, HP2.out, HO2.out⟩
      case round =>
        clear HR2 HP2 HO2
        obtain ⟨i, rfl, i1, i2, i4, i3⟩ := hrel
        have j0 : (0 : Int) ≤ (i : Int) := by omega
        have j2 : (n : Int) ≤ 4096 := by have := HT.out; omega
        by_cases hlt : (i : Int) < (n : Int)
        · obtain ⟨q, hq⟩ : ∃ q, dlR n r.S (rsF r 8) i = q := ⟨_, rfl⟩
          rw [hq] at i2
          have hst : dlR n r.S (rsF r 8) (i + 1) = dlStep n r.S q i := by show dlStep n r.S (dlR n r.S (rsF r 8) i) i = _; rw [hq]
          obtain ⟨x, y, z, hp⟩ := page_of (r.S i)
          obtain ⟨q0, q1, q2⟩ := i4.page (by omega) hp
          have hoA : Out 0 0 wr (wr.alloc (.cells #[.int .i64 x, .int .i64 y, .int .i64 z] 54)) := (Out.refl 0 0 _).alloc _
          have HBA : Hid ((wr.alloc (.cells #[.int .i64 x, .int .i64 y, .int .i64 z] 54)).heap[wr.heap.size]? = some (.cells #[.int .i64 x, .int .i64 y, .int .i64 z] 54 (0, 0))) := heap_alloc_new _ _
          have HRA := hid_mk (i2.quiet hoA)
          have HPA := hid_mk (i4.kept hoA (.inr (Nat.zero_le _)))
          have HOA := hid_mk (i3.trans (hoA.any lo hi))
          by_cases hx : x = 1
          · subst hx
            obtain ⟨c, hc, rfl⟩ : ∃ c : Nat, c < 8 ∧ y = c := by
              rcases HG.out.cases (i := i) (by omega) with e | ⟨c, c1, c2, e⟩ | ⟨k, _, _, _, e⟩ | e
              · rw [hp] at e; cases e
              · rw [hp] at e; simp at e; exact ⟨c.toNat, by omega, by omega⟩
              · rw [hp] at e; cases e
              · rw [hp] at e; cases e
            have HC := hid_mk hc
            have hpn : i < n := by omega
            have HPn := hid_mk hpn
            have HE := hid_mk (empty_any HRA.out hpn)
            unfold dlStep at hst
            rw [hp, if_pos rfl] at hst
            cases hb : (cntR q.P (64 * i) (64 * i + 64) == 0) with
            | true =>
              rw [hb] at HE hst
              rw [if_pos rfl] at hst
              have HST := hid_mk hst
              clear i2 i3 i4 hoA hst hq hp hb
              go_wp2_with (first
                | (go_at_call 89; refine HE.out.mono ?_; rintro e w3 ⟨rfl, ho⟩; have HR3 := hid_mk (HRA.out.quiet ho); have HP3 := hid_mk (HPA.out.kept ho (.inr (Nat.zero_le _))); have HO3 := hid_mk (HOA.out.trans (ho.any lo hi)); obtain ⟨d0, d1, d2, d3, d4, d5⟩ := HR3.out.cells; clear ho)
                | (go_at_call 87; refine (give_any HR3.out.tbl HR3.out.tab (i : Int)).mono ?_; rintro e w4 ⟨rfl, hmt, hot⟩))
              have hin := HR3.out.inn 10 (by omega)
              simp [ln] at hin
              refine ⟨⟨i + 1, by congr 1, by omega, (HR3.out.setT hot hmt).congr HST.out.symm, HP3.out.kept hot (.inr (by have := HGg.out; omega)), HO3.out.trans (HR3.out.wide (i := 10) (by omega) hot)⟩, by simp [intOf]; omega⟩
            | false =>
              rw [hb] at HE hst
              rw [if_neg (by simp)] at hst
              have HST := hid_mk hst
              have HF := hid_mk (fun w3 (h3 : RawAt w3 lo hi s n cap q) => freeUp_any h3 hc hpn)
              clear i2 i3 i4 hoA hst hq hp hb
              go_wp2_with (first
                | (go_at_call 89; refine HE.out.mono ?_; rintro e w3 ⟨rfl, ho⟩; have HR3 := hid_mk (HRA.out.quiet ho); have HP3 := hid_mk (HPA.out.kept ho (.inr (Nat.zero_le _))); have HO3 := hid_mk (HOA.out.trans (ho.any lo hi)); obtain ⟨x0, x1, x2⟩ := box3 (ho.heap HBA.out (.inr (Nat.zero_le _))); clear ho)
                | (go_at_call 90; refine (HF.out _ HR3.out).mono ?_; rintro e w4 ⟨⟨v, rfl⟩, hr4, ho4⟩))
              refine ⟨⟨i + 1, by congr 1, by omega, hr4.congr HST.out.symm, HP3.out.kept ho4 (.inr HGg.out), HO3.out.trans ho4⟩, by simp [intOf]; omega⟩
          · have hst2 : dlR n r.S (rsF r 8) (i + 1) = q := by rw [hst]; unfold dlStep; rw [hp, if_neg hx]
            have HST := hid_mk hst2
            clear i2 i3 i4 hoA hst hst2 hq hp
            go_wp2
            refine ⟨⟨i + 1, by congr 1, by omega, HRA.out.congr HST.out.symm, HPA.out, HOA.out⟩, by simp [intOf]; omega⟩
        · have e : i = n := by omega
          subst e
          have HR3 := hid_mk i2
          have HO3 := hid_mk i3
          clear i2 i3 i4
          have hge : (i : Int) ≤ (i : Int) := Int.le_refl _
          go_wp2_with fail
          go_loopw [46] (fun u wr => ∃ c : Nat, u = .int .i64 (c : Int) ∧ c ≤ 8 ∧ RawAt wr lo hi s i cap (lnR i (dlR i r.S (rsF r 8) i) c) ∧ Out lo hi w wr) (fun u _ => ((8 : Int) - intOf u).toNat)
          case atStart => exact ⟨0, rfl, Nat.zero_le _, HR3.out, HO3.out⟩
          case round =>
            clear HR3 HO3
            obtain ⟨c, rfl, c1, c2, c3⟩ := hrel
            have k0 : (0 : Int) ≤ (c : Int) := by omega
            have HR4 := hid_mk c2
            have HO4 := hid_mk c3
            by_cases hl8 : (c : Int) < 8
            · have HC : Hid (c < 8) := by show _ < _; omega
              clear c2 c3
              go_wp2_with (go_at_call 91; refine (spLink_any HR4.out HC.out).mono ?_; rintro e w5 ⟨⟨v, rfl⟩, hr5, ho5⟩)
              refine ⟨⟨c + 1, by congr 1, by omega, hr5, HO4.out.trans ho5⟩, by simp [intOf]; omega⟩
            · have e : c = 8 := by omega
              subst e
              clear c2 c3
              go_wp2
              exact bodyPost_end (results_none Tryd.results70 _ _ _) rfl ⟨⟨_, rfl⟩, HR4.out, HO4.out⟩
end
end Go.Proofs.YtjbbkeoolodeaabDoor
namespace Go.Proofs.YtjbbkeoolodeaabDoor
open Go.RowKit
set_option linter.unusedVariables false
set_option linter.unusedSimpArgs false

/-- the objects below p that are not kept are dropped -/
def dropTo (n : Nat) (r : Raw) (kp : Nat → Bool) : Nat → Raw
  | 0 => r
  | p + 1 => if r.P p && !kp p then (match r.M (p : Int) with | some b => drR n (dropTo n r kp p) p b.2.1 b.2.2.1 | none => dropTo n r kp p) else dropTo n r kp p
/-- how many they are -/
def freedTo (r : Raw) (kp : Nat → Bool) : Nat → Nat
  | 0 => 0
  | p + 1 => if r.P p && !kp p then freedTo r kp p + 1 else freedTo r kp p
theorem freed_le (r : Raw) (kp : Nat → Bool) : ∀ p, freedTo r kp p ≤ p
  | 0 => Nat.le_refl _
  | p + 1 => by
    have := freed_le r kp p
    unfold freedTo
    cases (r.P p && !kp p) with
    | true => simp; omega
    | false => simp; omega
/-- what stays -/
theorem drop_keeps {n : Nat} {r : Raw} {kp : Nat → Bool} (hT : Told r) : ∀ p a, (dropTo n r kp p).P a = (r.P a && !(decide (a < p) && !kp a)) ∧ (((dropTo n r kp p).P a = true ∨ p ≤ a) → (dropTo n r kp p).M (a : Int) = r.M (a : Int)) ∧ (dropTo n r kp p).W = r.W
  | 0, a => by simp [dropTo]
  | p + 1, a => by
    obtain ⟨h1, h2, h3⟩ := drop_keeps (n := n) (kp := kp) hT p a
    unfold dropTo
    cases e : (r.P p && !kp p) with
    | false =>
      rw [if_neg (by simp)]
      refine ⟨?_, fun h => h2 ?_, h3⟩
      · rw [h1]
        by_cases ea : a = p
        · subst ea
          rw [Bool.and_eq_false_iff] at e
          rcases e with e | e
          · rw [e]; simp
          · have : kp a = true := by simpa using e
            rw [this]; simp
        · have : decide (a < p + 1) = decide (a < p) := by by_cases hh : a < p <;> simp [hh] <;> omega
          rw [this]
      · rcases h with h | h
        · exact .inl h
        · exact .inr (by omega)
    | true =>
      rw [if_pos rfl]
      rw [Bool.and_eq_true] at e
      obtain ⟨b, hb⟩ := hT p e.1
      rw [hb]
      have hk : kp p = false := by simpa using e.2
      by_cases ea : a = p
      · subst ea
        refine ⟨?_, fun h => ?_, h3⟩
        · show upd _ a false a = _
          unfold upd
          rw [if_pos rfl, hk]; simp
        · rcases h with h | h
          · have : upd (dropTo n r kp a).P a false a = true := h
            unfold upd at this; simp at this
          · omega
      · refine ⟨?_, fun h => ?_, h3⟩
        · show upd _ p false a = _
          unfold upd
          rw [if_neg ea, h1]
          have : decide (a < p + 1) = decide (a < p) := by by_cases hh : a < p <;> simp [hh] <;> omega
          rw [this]
        · show (if (a : Int) = (p : Int) then none else (dropTo n r kp p).M (a : Int)) = _
          rw [if_neg (by omega)]
          refine h2 ?_
          rcases h with h | h
          · have : upd (dropTo n r kp p).P p false a = true := h
            unfold upd at this
            rw [if_neg ea] at this
            exact .inl this
          · exact .inr (by omega)
theorem drop_told {n : Nat} {r : Raw} {kp : Nat → Bool} (hT : Told r) (p : Nat) : Told (dropTo n r kp p) := by
  intro a ha
  obtain ⟨h1, h2, h3⟩ := drop_keeps (n := n) (kp := kp) hT p a
  rw [h2 (.inl ha)]
  rw [h1] at ha
  exact hT a (by revert ha; cases r.P a <;> simp)
theorem drop_rooms {n : Nat} {r : Raw} {kp : Nat → Bool} (hT : Told r) (hR : Rooms n r) (p : Nat) : Rooms n (dropTo n r kp p) := by
  have hP : ∀ a, (dropTo n r kp p).P a = true → r.P a = true := fun a ha => by
    rw [(drop_keeps (n := n) (kp := kp) hT p a).1] at ha
    revert ha; cases r.P a <;> simp
  intro a b ha hb
  rw [(drop_keeps (n := n) (kp := kp) hT p a).2.1 (.inl ha)] at hb
  obtain ⟨h1, h2, h3, h4⟩ := hR a b (hP a ha) hb
  exact ⟨h1, h2, h3, fun a' h5 h6 => h4 a' h5 (hP a' h6)⟩
theorem drop_skip {n : Nat} {r : Raw} {kp : Nat → Bool} {p : Nat} : ∀ {d : Nat}, (∀ j, p ≤ j → j < p + d → r.P j = false) → dropTo n r kp (p + d) = dropTo n r kp p ∧ freedTo r kp (p + d) = freedTo r kp p
  | 0, _ => ⟨rfl, rfl⟩
  | d + 1, h => by
    obtain ⟨h1, h2⟩ := drop_skip (n := n) (kp := kp) (p := p) (d := d) (fun j a b => h j a (by omega))
    have e : r.P (p + d) = false := h _ (by omega) (by omega)
    constructor
    · refine Eq.trans ?_ h1
      show dropTo n r kp ((p + d) + 1) = _
      conv => lhs; unfold dropTo
      rw [e]; rfl
    · refine Eq.trans ?_ h2
      show freedTo r kp ((p + d) + 1) = _
      conv => lhs; unfold freedTo
      rw [e]; rfl
theorem drop_to {n : Nat} {r : Raw} {kp : Nat → Bool} {p k : Nat} (hp : p ≤ k) (h : ∀ j, p ≤ j → j < k → r.P j = false) : dropTo n r kp k = dropTo n r kp p ∧ freedTo r kp k = freedTo r kp p := by
  obtain ⟨d, rfl⟩ : ∃ d, k = p + d := ⟨k - p, by omega⟩
  exact drop_skip h
theorem drop_kept {n : Nat} {r : Raw} {kp : Nat → Bool} {k : Nat} (hk : kp k = true) : dropTo n r kp (k + 1) = dropTo n r kp k ∧ freedTo r kp (k + 1) = freedTo r kp k := by
  constructor
  · conv => lhs; unfold dropTo
    rw [hk, if_neg (by simp)]
  · conv => lhs; unfold freedTo
    rw [hk, if_neg (by simp)]
theorem drop_gone {n : Nat} {r : Raw} {kp : Nat → Bool} {k : Nat} {b : Blk} (hP : r.P k = true) (hk : kp k = false) (hb : r.M (k : Int) = some b) : dropTo n r kp (k + 1) = drR n (dropTo n r kp k) k b.2.1 b.2.2.1 ∧ freedTo r kp (k + 1) = freedTo r kp k + 1 := by
  constructor
  · conv => lhs; unfold dropTo
    rw [hP, hk, hb]; rfl
  · conv => lhs; unfold freedTo
    rw [hP, hk]; rfl
/-- those named in l -/
def kpS (l : List Int) : Nat → Bool := fun j => l.contains (j : Int)
theorem kp_nil : kpS [] = fun _ => false := by funext j; unfold kpS; simp
theorem kp_step (l : List Int) (a : Nat) : upd (kpS l) a true = kpS (l ++ [(a : Int)]) := by
  funext j
  unfold upd kpS
  rw [List.contains_append]
  by_cases e : j = a
  · rw [if_pos e, e]; simp
  · rw [if_neg e]
    have : ([(a : Int)]).contains (j : Int) = false := by simp; omega
    rw [this]; simp
/-- a list of numbers that is handed in -/
def IntsIs (w : World) (p : Option Addr) (l : List Int) : Prop := l = [] ∨ ∃ g, p = some ⟨g, 0, none⟩ ∧ g < w.heap.size ∧ ∀ j, j < l.length → w.cell? ⟨g, j, none⟩ = some (.int .i64 (l[j]?.getD 0))
def keepR (n : Nat) (r : Raw) (l : List Int) : Raw := dealR n { dropTo n r (kpS l) (64 * n) with W := wpW (dropTo n r (kpS l) (64 * n)) (64 * n) }
end Go.Proofs.YtjbbkeoolodeaabDoor
namespace Go.Proofs.YtjbbkeoolodeaabDoor
open Go.RowKit
attribute [local go_sem] Oper.semAt_some
set_option linter.unusedVariables false
set_option linter.unusedSimpArgs false
section
variable {w : World} {lo hi n cap : Nat} {s : Nat → Nat} {r : Raw}
set_option maxRecDepth 100000 in
set_option maxHeartbeats 4000000 in
theorem keep_any (h : RawAt w lo hi s n cap r) (hT : Told r) (hR : Rooms n r) (hM : ∀ a b, r.M a = some b → ∃ j : Nat, a = j ∧ j < 64 * n) {l : List Int} {p : Option Addr} {cp : Nat} (hl : IntsIs w p l) (hll : (l.length : Int) < 9223372036854775807) :
    Calls Tryd.prog 42 #[.pointer (some ⟨s 14, 0, none⟩), .slice p l.length cp] w fun e w' => Out lo hi w w' ∧
      (((∀ a ∈ l, (r.M a).isSome = true) ∧ e = .returned (.tuple #[.int .i64 ((freedTo r (kpS l) (64 * n) : Nat) : Int), .int .i64 0]) ∧ RawAt w' lo hi s n cap (keepR n r l)) ∨
       ((∃ a ∈ l, r.M a = none) ∧ e = .returned (.tuple #[.int .i64 0, .int .i64 22]) ∧ RawAt w' lo hi s n cap r)) := by
  have HR0 := hid_mk h
  have HTo := hid_mk hT
  have HRo := hid_mk hR
  have HMi := hid_mk hM
  have HLi := hid_mk hl
  have HT : Hid (hi ≤ w.heap.size ∧ 4 ≤ w.heap.size ∧ 4 ≤ lo ∧ n ≤ 4096 ∧ 1 ≤ n) := ⟨h.top, h.tab.lt, h.glob, h.n2, h.n1⟩
  have HLL := hid_mk hll
  have HL := hid_mk (fun w => spAll_any (s 14) w)
  have HW := hid_mk (fun W (hr : RawAt W lo hi s n cap r) => spWords_any hr)
  have HN := hid_mk (fun W (hr : RawAt W lo hi s n cap r) => none_any (64 * n) (by have := h.n2; omega) W hr.tab)
  have l0 : (0 : Int) ≤ (l.length : Int) := by omega
  clear h hT hR hM hl
  refine (callsIn_wide (n := 0)).1 ?_
  refine callsIn_of_wp_marks Tryd.func42 rfl trivial ?_ rfl
  simp only [Tryd.ntmps42, List.size_toArray, List.length_cons, List.length_nil, Nat.reduceAdd, Nat.reduceSub, Array.replicate_succ, Array.replicate_zero, List.push_toArray, List.append_toArray, List.nil_append, List.cons_append]
  gi_wp2_with (refine ⟨trivial, rfl, ?_⟩; gi_at_call 32; refine (callsIn_wide.2 (self_any _ _)).mono ?_; rintro e w1 ⟨rfl, rfl⟩)
  obtain ⟨W0, hW0⟩ : ∃ W0, w.alloc (.cells #[.pointer (some ⟨s 14, 0, none⟩)] 30) = W0 := ⟨_, rfl⟩
  have hs0 : W0.heap.size = w.heap.size + 1 := by rw [← hW0]; simp
  have HO0 : Hid (Out 0 0 w W0) := by rw [← hW0]; exact ((Out.refl 0 0 w).alloc _)
  have HB0 : Hid (Box W0 w.heap.size 30 (.pointer (some ⟨s 14, 0, none⟩))) := by rw [← hW0]; exact Box.new _ _ _
  rw [hW0]
  clear hW0
  have hr0 := HR0.out.quiet HO0.out
  have HNo := hid_mk (HN.out W0 hr0)
  have HWo := hid_mk (HW.out W0 hr0)
  rw [hs0] at HNo
  clear hs0 hr0 HN HW
  refine ⟨trivial, rfl, ?_⟩
  refine (callsIn_wide.2 HWo.out).mono ?_
  rintro e w1 ⟨rfl, rfl⟩
  gi_wp2_with (refine ⟨trivial, rfl, ?_⟩; gi_at_call 47; refine (callsIn_wide.2 HNo.out).mono ?_; rintro e w1 ⟨rfl, hm1, ho1, hs1⟩)
  obtain ⟨W2, hW2⟩ : ∃ W2, w1.alloc (.cells #[.pointer (some ⟨w.heap.size + 1 + 1, 0, none⟩)] 78) = W2 := ⟨_, rfl⟩
  have ho2 : Out 0 0 w1 W2 := by rw [← hW2]; exact ((Out.refl 0 0 _).alloc _)
  have hk2 : Box W2 (w.heap.size + 1 + 2) 78 (.pointer (some ⟨w.heap.size + 1 + 1, 0, none⟩)) := by rw [← hW2, show w.heap.size + 1 + 2 = w1.heap.size from by omega]; exact Box.new _ _ _
  have hz2 : W2.heap.size = w.heap.size + 4 := by rw [← hW2]; simp; omega
  have HO2 := hid_mk ((HO0.out.trans ho1).trans ho2)
  have HB2 := hid_mk (HB0.out.kept (ho1.trans ho2) (.inr (Nat.zero_le _)))
  have HK2 := hid_mk hk2
  have HM2 := hid_mk (hm1.quiet ho2)
  have HZ2 := hid_mk hz2
  try rw [hW2]
  clear hW2 ho1 hm1 ho2 hk2 hz2 HNo HWo HO0 HB0
  gi_loopw [20] (fun u wr => ∃ i : Nat, u = .int .i64 (i : Int) ∧ i ≤ l.length ∧ (∀ a ∈ l.take i, (r.M a).isSome = true) ∧ RawAt wr lo hi s n cap r ∧ Box wr w.heap.size 30 (.pointer (some ⟨s 14, 0, none⟩)) ∧ Box wr (w.heap.size + 1 + 2) 78 (.pointer (some ⟨w.heap.size + 1 + 1, 0, none⟩)) ∧ MapAt wr (w.heap.size + 1) (w.heap.size + 1 + 2) (w.heap.size + 1 + 1) (64 * n) (kpS (l.take i)) ∧ Out 0 0 w wr) (fun u _ => ((l.length : Int) - intOf u).toNat)
  case atStart => exact ⟨0, rfl, Nat.zero_le _, fun a ha => by simp at ha, HR0.out.quiet HO2.out, HB2.out, HK2.out, by rw [List.take_zero, kp_nil]; exact HM2.out, HO2.out⟩
  case round =>
    clear HB2 HK2 HM2 HO2 HZ2
    obtain ⟨i, rfl, i1, i2, i3, i4, i5, i6, i7⟩ := hrel
    have HA := hid_mk (And.intro i2 (And.intro i3 (And.intro i4 (And.intro i5 (And.intro i6 i7)))))
    have j0 : (0 : Int) ≤ (i : Int) := by omega
    by_cases hlt : (i : Int) < (l.length : Int)
    · obtain ⟨g, rfl, hg, hgc⟩ : ∃ g, p = some ⟨g, 0, none⟩ ∧ g < w.heap.size ∧ ∀ j, j < l.length → w.cell? ⟨g, j, none⟩ = some (.int .i64 (l[j]?.getD 0)) := by
        rcases HLi.out with e | e
        · rw [e] at hlt; simp at hlt; omega
        · exact e
      have q0 := i7.cell (hgc i (by omega)) (.inr (Nat.zero_le _))
      obtain ⟨a, ha⟩ : ∃ a, l[i]?.getD 0 = a := ⟨_, rfl⟩
      rw [ha] at q0
      have hmem : l.take (i + 1) = l.take i ++ [a] := by
        rw [List.take_add_one, List.getElem?_eq_getElem (by omega)]
        rw [List.getElem?_eq_getElem (by omega)] at ha
        simp at ha
        rw [ha]; rfl
      have c0 := i4.cell
      have c1 := i5.cell
      obtain ⟨d0, d1, d2, d3, d4, d5⟩ := i3.cells
      have hlk := i3.look true a
      cases hma : r.M a with
      | none =>
        have e1 : mapM r.M a = none := by unfold mapM; rw [hma]; rfl
        rw [e1] at hlk
        simp only [Option.getD_none, Option.isSome_none, if_true] at hlk
        have HE : Hid (∃ a ∈ l, r.M a = none) := ⟨a, by rw [← List.take_append_drop (i + 1) l, hmem]; simp, hma⟩
        clear i2 i3 i4 i5 i6 i7 hmem hma e1 ha hg hgc
        gi_wp2
        refine ⟨_, results_tmp2 rfl _ _ _, ?_⟩
        exact ⟨(HA.out.2.2.2.2.2.any lo hi).trans (((Out.refl 0 0 wr).alloc _).any lo hi), .inr ⟨HE.out, rfl, HA.out.2.1.quiet ((Out.refl 0 0 wr).alloc _)⟩⟩
      | some b =>
        obtain ⟨b1, b2, b3, b4⟩ := b
        have e1 : mapM r.M a = some (.agg #[.int .i64 a, .int .i64 b1, .int .i64 b2, .int .i64 b3, .int .i64 b4]) := by unfold mapM; rw [hma]; rfl
        rw [e1] at hlk
        simp only [Option.getD_some, Option.isSome_some, if_true] at hlk
        obtain ⟨j, rfl, hj⟩ := HMi.out a _ hma
        have HJ := hid_mk hj
        have HM := hid_mk hmem
        have HS := hid_mk hma
        clear i2 i3 i4 i5 i6 i7 hmem hma e1 ha hg hgc hj
        have hoA : Out 0 0 wr (wr.alloc (.cells #[.int .i64 (j : Int), .int .i64 b1, .int .i64 b2, .int .i64 b3, .int .i64 b4] 36)) := (Out.refl 0 0 _).alloc _
        have HOA := hid_mk hoA
        have HSt := hid_mk (set_any (HA.out.2.2.2.2.1.quiet hoA) (j : Int))
        have c2 := (HA.out.2.2.2.1.kept hoA (.inr (Nat.zero_le _))).cell
        clear hoA
        gi_wp2_with (refine ⟨trivial, rfl, ?_⟩; gi_at_call 63; refine (callsIn_wide.2 HSt.out).mono ?_; rintro e w4 ⟨rfl, hm4, ho4⟩)
        have hT := HT.out
        refine ⟨⟨i + 1, by congr 1, by omega, ?_, (HA.out.2.1.quiet HOA.out).kept ho4 (.inl (by omega)) (.inl (by omega)), (HA.out.2.2.1.kept HOA.out (.inr (Nat.zero_le _))).kept ho4 (by omega), (HA.out.2.2.2.1.kept HOA.out (.inr (Nat.zero_le _))).kept ho4 (by omega), ?_, (HA.out.2.2.2.2.2.trans HOA.out).past ho4 (by omega)⟩, by simp [intOf]; omega⟩
        · rw [HM.out]
          intro a' ha'
          rw [List.mem_append] at ha'
          rcases ha' with ha' | ha'
          · exact HA.out.1 a' ha'
          · simp at ha'; rw [ha', HS.out]; rfl
        · rw [HM.out, ← kp_step]
          have e5 : setS (kpS (l.take i)) (64 * n) (j : Int) true = upd (kpS (l.take i)) j true := by
            unfold setS
            rw [if_pos (show inB (64 * n) (j : Int) = true from by unfold inB; simp; have := HJ.out; omega)]
            rfl
          rw [← e5]
          exact hm4
    · have e : i = l.length := by omega
      subst e
      clear i2 i3 i4 i5 i6 i7
      rw [List.take_length] at HA
      have hge : (l.length : Int) ≤ (l.length : Int) := Int.le_refl _
      have c0 := (HA.out.2.2.1.kept ((Out.refl 0 0 wr).alloc (.cells #[.int .i64 0] 3)) (.inr (Nat.zero_le _))).cell
      gi_wp2_with (refine ⟨trivial, rfl, ?_⟩; gi_at_call 31; refine (callsIn_wide.2 (HL.out _)).mono ?_; rintro e w1 ⟨rfl, rfl⟩)
      have HC := hid_mk (And.intro HA.out.1 (And.intro HA.out.2.1 (And.intro HA.out.2.2.1 (And.intro HA.out.2.2.2.1 (And.intro HA.out.2.2.2.2.1 HA.out.2.2.2.2.2)))))
      obtain ⟨W1, hW1⟩ : ∃ W1, (wr.alloc (.cells #[.int .i64 0] 3)).alloc (.cells #[.pointer (some ⟨s 14, 0, none⟩)] 30) = W1 := ⟨_, rfl⟩
      obtain ⟨G, hG⟩ : ∃ G, wr.heap.size = G := ⟨_, rfl⟩
      have hs1 : W1.heap.size = G + 2 := by rw [← hW1, ← hG]; simp
      have ho1 : Out 0 0 wr W1 := by rw [← hW1]; exact ((Out.refl 0 0 wr).alloc _).alloc _
      have hx1 : Box W1 G 3 (.int .i64 0) := by rw [← hW1, ← hG]; exact two_first
      have hz1 : Box W1 (G + 1) 30 (.pointer (some ⟨s 14, 0, none⟩)) := by rw [← hW1, ← hG]; exact heap_alloc2_new _ _ _
      have HGG : Hid (w.heap.size + 4 ≤ G) := by show _ ≤ _; have := HC.out.2.2.2.1.lt; omega
      rw [hW1, hG]
      have HO1 := hid_mk ho1
      have HX1 := hid_mk hx1
      have HZ1 := hid_mk hz1
      clear hW1 ho1 hx1 hz1 HA c0 hge hlt i1 j0 hG
      refine overAll (lo := lo) (hi := hi) (n := n) (cap := cap) (g := G + 1) (s := s) rfl rfl
        (fun p W => p ≤ 64 * n ∧ RawAt W lo hi s n cap (dropTo n r (kpS l) p) ∧ Box W w.heap.size 30 (.pointer (some ⟨s 14, 0, none⟩)) ∧ Box W (w.heap.size + 1 + 2) 78 (.pointer (some ⟨w.heap.size + 1 + 1, 0, none⟩)) ∧ MapAt W (w.heap.size + 1) (w.heap.size + 1 + 2) (w.heap.size + 1 + 1) (64 * n) (kpS l) ∧ Box W G 3 (.int .i64 ((freedTo r (kpS l) p : Nat) : Int)) ∧ Box W (G + 1) 30 (.pointer (some ⟨s 14, 0, none⟩)) ∧ Out lo hi w W)
        (fun W => RawAt W lo hi s n cap (dropTo n r (kpS l) (64 * n)) ∧ Box W w.heap.size 30 (.pointer (some ⟨s 14, 0, none⟩)) ∧ Box W G 3 (.int .i64 ((freedTo r (kpS l) (64 * n) : Nat) : Int)) ∧ Out lo hi w W)
        (fun c W => False) ?hm1 ?hq1 ?hqk1 ?hqx1 ?hy1 ?he1 ?hz1 ?hdone1 ?hstop1
      case hm1 =>
        rintro p W ⟨hp, a1, a2, a3, a4, a5, a6, a7⟩
        exact ⟨hp, _, a1, drop_told HTo.out p, a6⟩
      case hq1 =>
        rintro p W W' x y ⟨hp, a1, a2, a3, a4, a5, a6, a7⟩ o hx
        have hT := HT.out
        have hgg := HGG.out
        exact ⟨hp, a1.kept o (by omega) (by omega), a2.kept o (by omega), a3.kept o (by omega), a4.kept o (by omega) (by omega), a5.kept o (by omega), a6.kept o (by omega), out_far a7 o (by omega)⟩
      case hqk1 =>
        rintro W W' x y ⟨a1, a2, a3, a4⟩ o hx
        have hT := HT.out
        have hgg := HGG.out
        exact ⟨a1.kept o (by omega) (by omega), a2.kept o (by omega), a3.kept o (by omega), out_far a4 o (by omega)⟩
      case hqx1 => exact fun c W W' x y h _ _ => h
      case hstop1 => exact fun c W h _ => h.elim
      case hz1 =>
        have o := HO1.out
        exact ⟨Nat.zero_le _, HC.out.2.1.quiet o, HC.out.2.2.1.kept o (.inr (Nat.zero_le _)), HC.out.2.2.2.1.kept o (.inr (Nat.zero_le _)), HC.out.2.2.2.2.1.quiet o, HX1.out, HZ1.out, (HC.out.2.2.2.2.2.trans o).any _ _⟩
      case he1 =>
        rintro p W rr ⟨hp, a1, a2, a3, a4, a5, a6, a7⟩ hr hk
        obtain ⟨eP, eM⟩ := raw_one a1 hr
        rw [← eP] at hk
        rcases nxr_cases (dropTo n r (kpS l) p).P (64 * n) p with ⟨_, hz⟩ | ⟨i, hi', _⟩
        · obtain ⟨e1, e2⟩ := drop_to (n := n) (r := r) (kp := kpS l) hp (fun j j1 j2 => by
            have := hz j j1 j2
            rw [(drop_keeps (n := n) (kp := kpS l) HTo.out p j).1, show decide (j < p) = false from by simp; omega] at this
            simpa using this)
          exact ⟨by rw [e1]; exact a1, a2, by rw [e2]; exact a5, a7⟩
        · have : (-1 : Int) = i := hk.symm.trans hi'
          omega
      case hy1 =>
        rintro p W rr k b ⟨hp, a1, a2, a3, a4, a5, a6, a7⟩ hr hk hb hsz
        obtain ⟨eP, eM⟩ := raw_one a1 hr
        rw [← eP] at hk
        rw [← eM] at hb
        have hK1 := drop_keeps (n := n) (kp := kpS l) HTo.out p
        have hrP : ∀ j, p ≤ j → (dropTo n r (kpS l) p).P j = r.P j := fun j hj => by
          rw [(hK1 j).1, show decide (j < p) = false from by simp; omega]; simp
        obtain ⟨hpk, hkn, hPk, hz⟩ : p ≤ k ∧ k < 64 * n ∧ r.P k = true ∧ ∀ j, p ≤ j → j < k → r.P j = false := by
          rcases nxr_cases (dropTo n r (kpS l) p).P (64 * n) p with ⟨e1, _⟩ | ⟨i, e1, e2, e3, e4, e5⟩
          · have : (-1 : Int) = k := e1.symm.trans hk
            omega
          · have : i = k := by have : (i : Int) = k := e1.symm.trans hk; omega
            subst this
            exact ⟨e3 hp, e2, by rw [← hrP i (e3 hp)]; exact e4, fun j j1 j2 => by rw [← hrP j j1]; exact e5 j j1 j2⟩
        have hb' : r.M (k : Int) = some b := by rw [← (hK1 k).2.1 (.inr hpk)]; exact hb
        obtain ⟨e1, e2⟩ := drop_to (n := n) (r := r) (kp := kpS l) hpk hz
        rw [← e1] at a1
        rw [← e2] at a5
        rw [hs1] at hsz ⊢
        have hRo := HRo.out k b hPk hb'
        have hgo := fun hkk => drop_gone (n := n) (r := r) (kp := kpS l) hPk hkk hb'
        have hfl := freed_le r (kpS l) k
        obtain ⟨b1, b2, b3, b4⟩ := b
        have A := hid_mk (And.intro a1 (And.intro a2 (And.intro a3 (And.intro a4 (And.intro a5 (And.intro a6 a7))))))
        have HKn := hid_mk (And.intro hkn (And.intro hsz hfl))
        have HRk := hid_mk hRo
        have HGo := hid_mk hgo
        clear a1 a2 a3 a4 a5 a6 a7 hr hk hb eP eM hz hPk hb' hRo hp hpk hkn hsz e1 e2 hK1 hrP hgo hfl
        unfold blkV
        dsimp only at A HRk HGo ⊢
        obtain ⟨f, hf⟩ : ∃ f : Nat, freedTo r (kpS l) k = f := ⟨_, rfl⟩
        obtain ⟨q, hq⟩ : ∃ q, dropTo n r (kpS l) k = q := ⟨_, rfl⟩
        rw [hf, hq] at A HGo
        rw [hf] at HKn
        obtain ⟨WA, hWA⟩ : ∃ WA, W.alloc (bo (k : Int) b1 b2 b3 b4) = WA := ⟨_, rfl⟩
        have HBA : Hid (WA.heap[W.heap.size]? = some (bo (k : Int) b1 b2 b3 b4)) := by rw [← hWA]; exact heap_alloc_new _ _
        have HOA : Hid (Out 0 0 W WA) := by rw [← hWA]; exact (Out.refl 0 0 W).alloc _
        obtain ⟨H, hH⟩ : ∃ H, W.heap.size = H := ⟨_, rfl⟩
        rw [hH] at HKn HBA
        unfold bo at hWA
        gi_wp2
        (try rw [hWA])
        refine ⟨HOA.out.any _ _, ?_⟩
        (try rw [hH])
        clear hWA hH
        intro W2 o2
        have hT := HT.out
        have hgg := HGG.out
        have hkk := HKn.out
        have HR2 := hid_mk ((A.out.1.quiet HOA.out).kept o2 (.inl (by omega)) (.inl (by omega)))
        have HS2 := hid_mk ((A.out.2.1.kept HOA.out (.inr (Nat.zero_le _))).kept o2 (.inl (by omega)))
        have HK2 := hid_mk ((A.out.2.2.1.kept HOA.out (.inr (Nat.zero_le _))).kept o2 (.inl (by omega)))
        have HM2 := hid_mk ((A.out.2.2.2.1.quiet HOA.out).kept o2 (.inl (by omega)) (.inl (by omega)))
        have HF2 := hid_mk ((A.out.2.2.2.2.1.kept HOA.out (.inr (Nat.zero_le _))).kept o2 (.inl (by omega)))
        have HZ2 := hid_mk ((A.out.2.2.2.2.2.1.kept HOA.out (.inr (Nat.zero_le _))).kept o2 (.inl (by omega)))
        have HB2 := hid_mk (o2.heap HBA.out (.inr (by omega)))
        have HO2 := hid_mk (out_far (out_far A.out.2.2.2.2.2.2 HOA.out (.inr rfl)) o2 (.inl (by omega)))
        have HGt := hid_mk (get_any HM2.out (k : Int))
        have hgb : getB (kpS l) (64 * n) (k : Int) = kpS l k := by
          unfold getB
          rw [show inB (64 * n) (k : Int) = true from by unfold inB; simp; omega]
          simp
        rw [hgb] at HGt
        have c0 := HK2.out.cell
        obtain ⟨q0, q1, q2, q3, q4⟩ := bo_facts HB2.out
        have f0 : (0 : Int) ≤ (f : Int) := by omega
        have f1 : (f : Int) ≤ 262144 := by omega
        clear o2 hT hgg hkk hgb A
        cases hkp : kpS l k with
        | true =>
          rw [hkp] at HGt
          obtain ⟨g1, g2⟩ := drop_kept (n := n) (r := r) (kp := kpS l) hkp
          rw [hq] at g1
          rw [hf] at g2
          have HG1 := hid_mk g1
          have HG2 := hid_mk g2
          clear g1 g2 hkp hf hq HGo
          gi_wp2_with (refine ⟨trivial, rfl, ?_⟩; gi_at_call 67; refine (callsIn_wide.2 HGt.out).mono ?_; rintro e w3 ⟨rfl, ho3⟩)
          refine ⟨ho3.any _ _, by have := HKn.out; omega, by rw [HG1.out]; exact HR2.out.quiet ho3, HS2.out.kept ho3 (.inr (Nat.zero_le _)), HK2.out.kept ho3 (.inr (Nat.zero_le _)), HM2.out.quiet ho3, by rw [HG2.out]; exact HF2.out.kept ho3 (.inr (Nat.zero_le _)), HZ2.out.kept ho3 (.inr (Nat.zero_le _)), out_far HO2.out ho3 (.inr rfl)⟩
        | false =>
          rw [hkp] at HGt
          obtain ⟨g1, g2⟩ := HGo.out hkp
          have HG1 := hid_mk g1
          have HG2 := hid_mk g2
          clear g1 g2 hkp hf hq HGo
          gi_wp2_with (first
            | (refine ⟨trivial, rfl, ?_⟩; gi_at_call 67; refine (callsIn_wide.2 HGt.out).mono ?_; rintro e w3 ⟨rfl, ho3⟩; have HR3 := hid_mk (HR2.out.quiet ho3); have HO3 := hid_mk ho3; have d0 := (HS2.out.kept ho3 (.inr (Nat.zero_le _))).cell; clear q0 q1 q2 q3 q4; obtain ⟨q0, q1, q2, q3, q4⟩ := bo_facts (ho3.heap HB2.out (.inr (Nat.zero_le _))); clear ho3)
            | (refine ⟨trivial, rfl, ?_⟩; gi_at_call 68; refine (callsIn_wide.2 (drop_any HR3.out (a := k) (k := b1) (z := b2) (x := b3) (t := b4) HRk.out.1 HRk.out.2.1 HKn.out.1)).mono ?_; rintro e w4 ⟨⟨v, rfl⟩, hr4, ho4⟩; have HR4 := hid_mk hr4; have HO4 := hid_mk ho4; have hf4 := (HF2.out.kept HO3.out (.inr (Nat.zero_le _))).kept ho4 (.inr (by have := HT.out; have := HGG.out; omega)); have HF4 := hid_mk hf4; have e0 := hf4.cell; have e1 := hf4.frozen; clear hr4 ho4 hf4))
          have hset := (Out.refl G (G + 1) w4).setCell (p := ⟨G, 0, none⟩) (.inl ⟨Nat.le_refl _, Nat.lt_succ_self _⟩) (.int .i64 ((f : Int) + 1))
          have hbx := HF4.out.set (.int .i64 ((f : Int) + 1))
          have hT := HT.out
          have hgg := HGG.out
          have hkk := HKn.out
          have h3 := HO3.out
          have h4 := HO4.out
          exact ⟨((h3.any 0 (G + 2)).trans (h4.wide (Nat.zero_le _) (by omega))).trans (hset.wide (Nat.zero_le _) (by omega)), by omega, by rw [HG1.out]; exact HR4.out.kept hset (.inl (by omega)) (.inl (by omega)), ((HS2.out.kept h3 (.inr (Nat.zero_le _))).kept h4 (by omega)).kept hset (by omega), ((HK2.out.kept h3 (.inr (Nat.zero_le _))).kept h4 (by omega)).kept hset (by omega), ((HM2.out.quiet h3).kept h4 (.inr (by omega)) (.inl (by omega))).kept hset (.inl (by omega)) (.inl (by omega)), by rw [HG2.out]; exact hbx, ((HZ2.out.kept h3 (.inr (Nat.zero_le _))).kept h4 (by omega)).kept hset (by omega), out_far ((HO2.out.trans (h3.any lo hi)).trans h4) hset (.inl (by omega))⟩
      case hdone1 =>
        rintro W ⟨a1, a2, a3, a4⟩ hd
        rw [hs1] at hd
        have HD := hid_mk hd
        have HS := hid_mk a2
        have HF := hid_mk a3
        have HO := hid_mk a4
        have HWp := hid_mk (wipe_any a1 (drop_told HTo.out _) (drop_rooms HTo.out HRo.out _))
        have c0 := a2.cell
        obtain ⟨f, hf⟩ : ∃ f : Nat, freedTo r (kpS l) (64 * n) = f := ⟨_, rfl⟩
        rw [hf] at HF
        rw [hs1]
        clear a1 a2 a3 a4 hd
        gi_wp2_with (first
          | (refine ⟨trivial, rfl, ?_⟩; gi_at_call 69; refine (callsIn_wide.2 HWp.out).mono ?_; rintro e w3 ⟨⟨v, rfl⟩, hr3, ho3⟩; have HDl := hid_mk (deal_any hr3); have HO3 := hid_mk ho3; have d0 := (HS.out.kept ho3 (.inr (by have := HT.out; omega))).cell; clear hr3 ho3)
          | (refine ⟨trivial, rfl, ?_⟩; gi_at_call 70; refine (callsIn_wide.2 HDl.out).mono ?_; rintro e w4 ⟨⟨v, rfl⟩, hr4, ho4⟩; have HR4 := hid_mk hr4; have HO4 := hid_mk ho4; have e0 := ((HF.out.kept HO3.out (.inr (by have := HT.out; have := HGG.out; omega))).kept ho4 (.inr (by have := HT.out; have := HGG.out; omega))).cell; clear hr4 ho4))
        have hT := HT.out
        have hgg := HGG.out
        refine ⟨by simp, .inl ⟨_, _, rfl, run_takeDeferred (HO4.out.heap (HO3.out.heap HD.out (.inr (by omega))) (.inr (by omega))), ?_⟩⟩
        exact ⟨_, results_tmp2 rfl _ _ _, out_far ((HO.out.trans HO3.out).trans HO4.out) (out_putObj _ _ _) (by omega), .inl ⟨HC.out.1, by rw [hf]; rfl, HR4.out.kept (out_putObj _ _ _) (by omega) (by omega)⟩⟩
end
end Go.Proofs.YtjbbkeoolodeaabDoor
namespace Go.Proofs.YtjbbkeoolodeaabDoor
open Go.RowKit
attribute [local go_sem] Oper.semAt_some
set_option linter.unusedVariables false
set_option linter.unusedSimpArgs false

/-- the words of the rooms below p -/
def usedTo (r : Raw) : Nat → Nat
  | 0 => 0
  | p + 1 => if r.P p then (match r.M (p : Int) with | some b => usedTo r p + roomN b.2.1 | none => usedTo r p) else usedTo r p
theorem used_skip {r : Raw} {p : Nat} : ∀ {d : Nat}, (∀ j, p ≤ j → j < p + d → r.P j = false) → usedTo r (p + d) = usedTo r p
  | 0, _ => rfl
  | d + 1, h => by
    refine Eq.trans ?_ (used_skip (r := r) (p := p) (d := d) (fun j a b => h j a (by omega)))
    show usedTo r ((p + d) + 1) = _
    conv => lhs; unfold usedTo
    rw [h _ (by omega) (by omega)]; rfl
theorem used_to {r : Raw} {p k : Nat} (hp : p ≤ k) (h : ∀ j, p ≤ j → j < k → r.P j = false) : usedTo r k = usedTo r p := by
  obtain ⟨d, rfl⟩ : ∃ d, k = p + d := ⟨k - p, by omega⟩
  exact used_skip h
theorem used_step {r : Raw} {k : Nat} {b : Blk} (hP : r.P k = true) (hb : r.M (k : Int) = some b) : usedTo r (k + 1) = usedTo r k + roomN b.2.1 := by
  conv => lhs; unfold usedTo
  rw [hP, hb]; rfl
/-- u words of 64 n -/
def useQ (n u : Nat) : Option Nat := floatBits .quo .f64 (floatOfInt .f64 (u : Int)) (floatOfInt .f64 (64 * (n : Int)))
section
variable {w : World} {lo hi n cap : Nat} {s : Nat → Nat} {r : Raw}
end
end Go.Proofs.YtjbbkeoolodeaabDoor
