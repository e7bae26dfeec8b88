import Derived.Test.YtcpignkjlnjjmaaGreatDoorNa15
namespace Go.Proofs.YtcpignkjlnjjmaaGreatDoor
open Go.RowKit
set_option linter.unusedVariables false
set_option linter.unusedSimpArgs false

theorem three_first {w : World} {o o2 o3 : Obj} : (((w.alloc o).alloc o2).alloc o3).heap[w.heap.size]? = some o := by
  rw [Below.heap_alloc _ _ _ (by simp; omega)]; exact two_first
theorem three_second {w : World} {o o2 o3 : Obj} : (((w.alloc o).alloc o2).alloc o3).heap[w.heap.size + 1]? = some o2 := by
  rw [Below.heap_alloc _ _ _ (by simp)]; exact two_second
theorem three_third {w : World} {o o2 o3 : Obj} : (((w.alloc o).alloc o2).alloc o3).heap[w.heap.size + 2]? = some o3 := by
  have q := heap_alloc_new ((w.alloc o).alloc o2) o3
  simpa using q
theorem leaves_tmps {P : Program} {fn : Func} {t t' : Array Value} {R : Ending → World → Prop} (h : results fn t = results fn t') : ∀ (ds : List Deferred) (u : FrameMode) (w : World), Leaves P fn t R ds u w → Leaves P fn t' R ds u w
  | [], .run, w, hL => hL
  | [], .returning, w, hL => by
    obtain ⟨v, a, b⟩ := hL
    exact ⟨v, by rw [← h]; exact a, b⟩
  | [], .panicking c, w, hL => hL
  | d :: ds, u, w, hL => by
    obtain ⟨hu, fv, cap, f, args, h1, h2, h3⟩ := hL
    refine ⟨hu, fv, cap, f, args, h1, h2, h3.mono ?_⟩
    intro e u' w' q
    cases e with
    | returned v => exact leaves_tmps h ds _ _ q
    | panicked c => exact leaves_tmps h ds _ _ q
    | outgrown => exact q
theorem getD_put (t : Array Value) {d p : Nat} (h : d ≠ p) (v : Value) : (t.setIfInBounds d v).getD p undef = t.getD p undef := by
  simp [Array.getElem?_setIfInBounds_ne h]
theorem results_put2 {fn : Func} {p q : Tmp} {a b : TypeId} (hr : fn.results = #[.cell p a, .cell q b]) {d : Tmp} (h1 : d ≠ p) (h2 : d ≠ q) (t : Array Value) (v : Value) : results fn (t.setIfInBounds d v) = results fn t := by
  simp only [results, hr]
  simp [Array.getElem?_setIfInBounds_ne h1, Array.getElem?_setIfInBounds_ne h2]
theorem results_put1 {fn : Func} {p : Tmp} {a : TypeId} (hr : fn.results = #[.cell p a]) {d : Tmp} (h1 : d ≠ p) (t : Array Value) (v : Value) : results fn (t.setIfInBounds d v) = results fn t := by
  simp only [results, hr]
  simp [Array.getElem?_setIfInBounds_ne h1]
theorem results_two {P : Program} {fn : Func} {p q : Tmp} {a b : TypeId} {t : Array Value} {w : World} {v1 v2 : Value} {A1 A2 : Addr} (hr : fn.results = #[.cell p a, .cell q b]) (hp : t.getD p undef = .pointer (some A1)) (hq : t.getD q undef = .pointer (some A2)) (r1 : (loadVar a A1).run P w = .ok v1 w) (r2 : (loadVar b A2).run P w = .ok v2 w) : (results fn t).run P w = .ok (.tuple #[v1, v2]) w := by
  have hp' : t[p]?.getD undef = .pointer (some A1) := by simpa using hp
  have hq' : t[q]?.getD undef = .pointer (some A2) := by simpa using hq
  simp only [results, hr]
  simp [Sem.run_bind, hp', hq', asAddr, r1, r2, Result.andThen]
theorem Out.trans' {a b c : World} {g h : Nat} (o : Out 0 0 a b) (q : Out g h b c) (hg : a.heap.size ≤ g) : Out 0 0 a c :=
  ⟨q.1.trans o.1, q.2.1.trans o.2.1, q.2.2.1.trans o.2.2.1, Nat.le_trans o.size q.size, fun k hk hn => (q.block (Nat.lt_of_lt_of_le hk o.size) (by omega)).trans (o.block hk hn)⟩
theorem load_blk {w : World} {g : Nat} {x1 x2 x3 x4 x5 : Int} (hg : w.heap[g]? = some (.cells #[.int .i64 x1, .int .i64 x2, .int .i64 x3, .int .i64 x4, .int .i64 x5] 44 (0, 0))) : (loadVar 44 ⟨g, 0, none⟩).run Tryz.prog w = .ok (.agg #[.int .i64 x1, .int .i64 x2, .int .i64 x3, .int .i64 x4, .int .i64 x5]) w :=
  run_loadVar_row w g 44 44 _ (0, 0) _ hg Tryz.underlying44 rfl (infoB x1 x2 x3 x4 x5)
theorem load_flt {w : World} {g : Nat} {x1 x2 : Int} (hg : w.heap[g]? = some (.cells #[.int .i64 x1, .int .i64 x2] 33 (0, 0))) : (loadVar 33 ⟨g, 0, none⟩).run Tryz.prog w = .ok (.agg #[.int .i64 x1, .int .i64 x2]) w :=
  run_loadVar_row w g 33 33 _ (0, 0) _ hg Tryz.underlying33 rfl (infoF x1 x2)
theorem leaves_ret {P : Program} {fn : Func} {t : Array Value} {R : Ending → World → Prop} {w : World} {v : Value} (h : (results fn t).run P w = .ok v w) (hR : R (.returned v) w) : Leaves P fn t R [] .returning w := ⟨v, h, hR⟩
section
variable {w : World} {lo hi hb : Nat} {s : Nat → Nat} {n cap : Nat} {r : Raw}
set_option maxRecDepth 100000 in
set_option maxHeartbeats 8000000 in
theorem Open_yes (hr : RawAt w lo hi s n cap r) (hA : InArena n r) (hH : w.cell? ⟨hb, 0, none⟩ = some (.pointer (some ⟨s 14, 0, none⟩))) (k m : Int) {t1 t2 t3 t4 : Int} (hM : r.M m = some (t1, t2, t3, t4)) (hop : opE r k m = 0) : Calls Tryz.prog 12 #[.pointer (some ⟨hb, 0, none⟩), .agg #[.int .i64 k, .int .i64 m]] w fun e w' => e = .returned (.tuple #[.agg #[.int .i64 m, .int .i64 t1, .int .i64 t2, .int .i64 t3, .int .i64 t4], .agg #[.int .i64 0, .int .i64 0]]) ∧ Out 0 0 w w' := by
  have hmf : ∀ (fn : Fn) (first cap : Array Value) (w : World), (Instr.makeFunc fn first cap).run Tryz.prog w = .ok (.func fn first cap) w := fun _ _ _ _ => rfl
  have fV := hid_mk (three_first (w := w) (o := .cells #[.int .i64 k, .int .i64 m] 31) (o2 := .cells #[.int .i64 0, .int .i64 0, .int .i64 0, .int .i64 0, .int .i64 0] 44) (o3 := .cells #[.int .i64 0, .int .i64 0] 33))
  have fR := hid_mk (three_second (w := w) (o := .cells #[.int .i64 k, .int .i64 m] 31) (o2 := .cells #[.int .i64 0, .int .i64 0, .int .i64 0, .int .i64 0, .int .i64 0] 44) (o3 := .cells #[.int .i64 0, .int .i64 0] 33))
  have fF := hid_mk (three_third (w := w) (o := .cells #[.int .i64 k, .int .i64 m] 31) (o2 := .cells #[.int .i64 0, .int .i64 0, .int .i64 0, .int .i64 0, .int .i64 0] 44) (o3 := .cells #[.int .i64 0, .int .i64 0] 33))
  have HO2 := hid_mk ((((Out.refl 0 0 w).alloc (.cells #[.int .i64 k, .int .i64 m] 31)).alloc (.cells #[.int .i64 0, .int .i64 0, .int .i64 0, .int .i64 0, .int .i64 0] 44)).alloc (.cells #[.int .i64 0, .int .i64 0] 33))
  have Hr := hid_mk hr
  have HA := hid_mk hA
  obtain ⟨gv, hgv⟩ : ∃ g, w.heap.size = g := ⟨_, rfl⟩
  have Hgv := hid_mk hgv
  obtain ⟨V2, hV2⟩ : ∃ V, ((w.alloc (.cells #[.int .i64 k, .int .i64 m] 31)).alloc (.cells #[.int .i64 0, .int .i64 0, .int .i64 0, .int .i64 0, .int .i64 0] 44)).alloc (.cells #[.int .i64 0, .int .i64 0] 33) = V := ⟨_, rfl⟩
  rw [hV2, hgv] at fV fR fF
  rw [hV2] at HO2
  have HH' := hid_mk (HO2.out.cell hH (.inr (Nat.zero_le _)))
  clear hH hr hA
  obtain ⟨u0, u1, u2, u3⟩ := val_facts fV.out
  have Hop := hid_mk hop
  have HM := hid_mk hM
  clear hop hM
  have HOp : Hid (∀ V, Out 0 0 V2 V → Calls Tryz.prog 29 #[.pointer (some ⟨hb, 0, none⟩), .agg #[.int .i64 k, .int .i64 m]] V fun e w' => e = .returned (.agg #[.int .i64 m, .int .i64 t1, .int .i64 t2, .int .i64 t3, .int .i64 t4]) ∧ Out 0 0 V w') := fun V o => by
    obtain ⟨a1, a2, a3, a4, h1, h2⟩ := open_yes (Hr.out.quiet (HO2.out.trans o)) HA.out (o.cell HH'.out (.inr (Nat.zero_le _))) k m Hop.out
    rw [HM.out] at h1
    simp only [Option.some.injEq, Prod.mk.injEq] at h1
    obtain ⟨rfl, rfl, rfl, rfl⟩ := h1
    exact h2
  go_enter_defers Tryz.func12, Tryz.ntmps12
  go_wp2_with fail
  (try rw [hV2])
  (try rw [hgv])
  clear hV2 hgv
  refine wp_region_held_drew (S := fun w' => w'.cell? ⟨gv, 0, none⟩ = some (.int .i64 k) ∧ w'.cell? ⟨gv, 1, none⟩ = some (.int .i64 m)) (by kernel_rfl) ?hS181 (fun hHeld => ?rest181)
  case hS181 => exact ⟨u0, u1⟩
  obtain ⟨Z0, hZ⟩ : ∃ Z, V2.drew = Z := ⟨_, rfl⟩
  have O : Out 0 0 V2 Z0 := by rw [← hZ]; exact (Out.refl 0 0 _).drew
  rw [hZ] at hHeld ⊢
  clear hZ
  refine wpAnyH_take (i := 0) (v := ?v182) rfl (by kernel_rfl) (by kernel_rfl) (by kernel_rfl) (fun _ _ _ h => leaves_tmps (results_put2 Tryz.results12 (by decide) (by decide) _ _) _ _ _ h) (Or.inl ⟨by rfl, ?hy182⟩) (by assumption) ?rest182
  case hy182 => (intro w hSw; (try dsimp only at hSw); simp only [xa, xb, xc]; go_simp; (try with_reducible rfl))
  (try simp only [Act.put, xa, xb, xc, xd, xe, xf])
  refine wpAnyH_take (i := 2) (v := ?v183) rfl (by kernel_rfl) (by kernel_rfl) (by kernel_rfl) (fun _ _ _ h => leaves_tmps (results_put2 Tryz.results12 (by decide) (by decide) _ _) _ _ _ h) (Or.inl ⟨by rfl, ?hy183⟩) (by assumption) ?rest183
  case hy183 => (intro w hSw; (try dsimp only at hSw); simp only [xa, xb, xc]; go_simp; (try with_reducible rfl))
  (try simp only [Act.put, xa, xb, xc, xd, xe, xf])
  refine wpAnyH_take (i := 4) (v := ?v184) rfl (by kernel_rfl) (by kernel_rfl) (by kernel_rfl) (fun _ _ _ h => leaves_tmps (results_put2 Tryz.results12 (by decide) (by decide) _ _) _ _ _ h) (Or.inl ⟨by rfl, ?hy184⟩) (by assumption) ?rest184
  case hy184 => (intro w hSw; (try dsimp only at hSw); simp only [xa, xb, xc]; go_simp; (try with_reducible rfl))
  (try simp only [Act.put, xa, xb, xc, xd, xe, xf])
  refine wpAnyH_ready (rs := [1]) (by kernel_rfl) (by simp) ?_
  refine AllReadyH.cons rfl (fun KK hK => ?_) AllReadyH.nil
  simp only [xa, xb, xc]
  go_simp
  refine (oself_any _ _).mono ?_
  rintro e w5 ⟨rfl, he⟩
  rw [he]
  clear he w5
  refine hK.out _ _ ?hS185 (fun hHeld2 => ?rest185)
  case hS185 => exact hHeld
  clear hK KK
  (try clear hHeld)
  have hHeld := hHeld2
  clear hHeld2
  (try simp only [Act.put, xa, xb, xc, xd, xe, xf])
  refine wpAnyH_ready (rs := [3]) (by kernel_rfl) (by simp) ?_
  refine AllReadyH.cons rfl (fun KK hK => ?_) AllReadyH.nil
  simp only [xa, xb, xc]
  go_simp
  refine (HOp.out _ O).mono ?_
  rintro e X3 ⟨rfl, q3⟩
  replace O := O.trans q3
  refine hK.out _ _ ?hS186 (fun hHeld2 => ?rest186)
  case hS186 => exact ⟨q3.cell hHeld.1 (.inr (Nat.zero_le _)), q3.cell hHeld.2 (.inr (Nat.zero_le _))⟩
  clear q3
  clear hK KK
  (try clear hHeld)
  have hHeld := hHeld2
  clear hHeld2
  (try simp only [Act.put, xa, xb, xc, xd, xe, xf])
  refine wpAnyH_ready (rs := [5]) (by kernel_rfl) (by simp) ?_
  refine AllReadyH.cons rfl (fun KK hK => ?_) AllReadyH.nil
  simp only [xa, xb, xc]
  have fR3 := O.heap fR.out (.inr (Nat.zero_le _))
  obtain ⟨y0, y1, y2, y3, y4, y5⟩ := blk5 fR3
  go_simp
  clear y0 y1 y2 y3 y4 y5
  obtain ⟨X5, hY⟩ : ∃ V, (((((X3.setCell ⟨gv + 1, 0, none⟩ (.int .i64 m)).setCell ⟨gv + 1, 1, none⟩ (.int .i64 t1)).setCell ⟨gv + 1, 2, none⟩ (.int .i64 t2)).setCell ⟨gv + 1, 3, none⟩ (.int .i64 t3)).setCell ⟨gv + 1, 4, none⟩ (.int .i64 t4)) = V := ⟨_, rfl⟩
  have q5 : Out (gv + 1) (gv + 2) X3 X5 := by rw [← hY]; exact (Out.refl _ _ _).set5 (.inl ⟨Nat.le_refl _, Nat.lt_succ_self _⟩) _ _ _ _ _
  have HR5 : Hid (X5.heap[gv + 1]? = some (.cells #[.int .i64 m, .int .i64 t1, .int .i64 t2, .int .i64 t3, .int .i64 t4] 44 (0, 0))) := by rw [← hY]; exact blk_set fR3
  have HP5 : Hid (Out 0 0 w X5) := by rw [← hY]; exact (HO2.out.trans O).set5 (.inr (by have := Hgv.out; omega)) _ _ _ _ _
  have HF5 := hid_mk (q5.heap (O.heap fF.out (.inr (Nat.zero_le _))) (.inr (Nat.le_refl _)))
  (try rw [hY])
  clear hY O fR3
  refine hK.out _ _ ?hS187 (fun hHeld2 => ?rest187)
  case hS187 => exact ⟨q5.cell hHeld.1 (.inl (Nat.lt_succ_self _)), q5.cell hHeld.2 (.inl (Nat.lt_succ_self _))⟩
  clear q5
  clear hK KK
  (try clear hHeld)
  have hHeld := hHeld2
  clear hHeld2
  (try simp only [Act.put, xa, xb, xc, xd, xe, xf])
  refine wpAnyH_ready (rs := [6]) (by kernel_rfl) (by simp) ?_
  refine AllReadyH.cons rfl (fun KK hK => ?_) AllReadyH.nil
  simp only [xa, xb, xc]
  obtain ⟨y0, y1, y2, y3⟩ := flt_facts HF5.out
  go_simp
  clear y0 y1 y2 y3
  obtain ⟨X6, hY⟩ : ∃ V, (X5.setCell ⟨gv + 2, 0, none⟩ (.int .i64 0)).setCell ⟨gv + 2, 1, none⟩ (.int .i64 0) = V := ⟨_, rfl⟩
  have q6 : Out (gv + 2) (gv + 3) X5 X6 := by rw [← hY]; exact (Out.refl _ _ _).set2 (.inl ⟨Nat.le_refl _, Nat.lt_succ_self _⟩) _ _
  have HR6 := hid_mk (q6.heap HR5.out (.inl (Nat.lt_succ_self _)))
  have HP6 : Hid (Out 0 0 w X6) := by rw [← hY]; exact HP5.out.set2 (.inr (by have := Hgv.out; omega)) _ _
  have HF6 : Hid (X6.heap[gv + 2]? = some (.cells #[.int .i64 0, .int .i64 0] 33 (0, 0))) := by rw [← hY]; exact flt_set HF5.out
  (try rw [hY])
  clear hY
  refine hK.out _ _ ?hS188 (fun hHeld2 => ?rest188)
  case hS188 => exact ⟨q6.cell hHeld.1 (.inl (by omega)), q6.cell hHeld.2 (.inl (by omega))⟩
  clear q6
  clear hK KK
  (try clear hHeld)
  have hHeld := hHeld2
  clear hHeld2
  (try simp only [Act.put, xa, xb, xc, xd, xe, xf])
  refine wpAnyH_done (by kernel_rfl) ?_ _
  clear hHeld
  go_wp2
  refine leaves_cons (f := 31) (args := #[.pointer (some ⟨gv + 2, 0, none⟩)]) (by simp) (by simp [go_sem]) ?_
  refine (catchOpen_idle HF6.out).mono ?_
  rintro e u' w9 ⟨rfl, rfl, f9, q9⟩
  exact leaves_ret (results_two Tryz.results12 rfl rfl (load_blk (q9.heap HR6.out (.inl (Nat.lt_succ_self _)))) (load_flt f9)) ⟨rfl, HP6.out.trans' q9 (by have := Hgv.out; omega)⟩
set_option maxRecDepth 100000 in
set_option maxHeartbeats 8000000 in
theorem Open_no (hr : RawAt w lo hi s n cap r) (hA : InArena n r) (hH : w.cell? ⟨hb, 0, none⟩ = some (.pointer (some ⟨s 14, 0, none⟩))) (k m : Int) (hop : opE r k m ≠ 0) : Calls Tryz.prog 12 #[.pointer (some ⟨hb, 0, none⟩), .agg #[.int .i64 k, .int .i64 m]] w fun e w' => e = .returned (.tuple #[.agg #[.int .i64 0, .int .i64 0, .int .i64 0, .int .i64 0, .int .i64 0], .agg #[.int .i64 (opE r k m), .int .i64 (opA r k m)]]) ∧ Out 0 0 w w' := by
  have hmf : ∀ (fn : Fn) (first cap : Array Value) (w : World), (Instr.makeFunc fn first cap).run Tryz.prog w = .ok (.func fn first cap) w := fun _ _ _ _ => rfl
  have fV := hid_mk (three_first (w := w) (o := .cells #[.int .i64 k, .int .i64 m] 31) (o2 := .cells #[.int .i64 0, .int .i64 0, .int .i64 0, .int .i64 0, .int .i64 0] 44) (o3 := .cells #[.int .i64 0, .int .i64 0] 33))
  have fR := hid_mk (three_second (w := w) (o := .cells #[.int .i64 k, .int .i64 m] 31) (o2 := .cells #[.int .i64 0, .int .i64 0, .int .i64 0, .int .i64 0, .int .i64 0] 44) (o3 := .cells #[.int .i64 0, .int .i64 0] 33))
  have fF := hid_mk (three_third (w := w) (o := .cells #[.int .i64 k, .int .i64 m] 31) (o2 := .cells #[.int .i64 0, .int .i64 0, .int .i64 0, .int .i64 0, .int .i64 0] 44) (o3 := .cells #[.int .i64 0, .int .i64 0] 33))
  have HO2 := hid_mk ((((Out.refl 0 0 w).alloc (.cells #[.int .i64 k, .int .i64 m] 31)).alloc (.cells #[.int .i64 0, .int .i64 0, .int .i64 0, .int .i64 0, .int .i64 0] 44)).alloc (.cells #[.int .i64 0, .int .i64 0] 33))
  have Hr := hid_mk hr
  have HA := hid_mk hA
  obtain ⟨gv, hgv⟩ : ∃ g, w.heap.size = g := ⟨_, rfl⟩
  have Hgv := hid_mk hgv
  obtain ⟨V2, hV2⟩ : ∃ V, ((w.alloc (.cells #[.int .i64 k, .int .i64 m] 31)).alloc (.cells #[.int .i64 0, .int .i64 0, .int .i64 0, .int .i64 0, .int .i64 0] 44)).alloc (.cells #[.int .i64 0, .int .i64 0] 33) = V := ⟨_, rfl⟩
  rw [hV2, hgv] at fV fR fF
  rw [hV2] at HO2
  have HH' := hid_mk (HO2.out.cell hH (.inr (Nat.zero_le _)))
  clear hH hr hA
  obtain ⟨u0, u1, u2, u3⟩ := val_facts fV.out
  have Hop := hid_mk hop
  clear hop
  have HOp : Hid (∀ V, Out 0 0 V2 V → Calls Tryz.prog 29 #[.pointer (some ⟨hb, 0, none⟩), .agg #[.int .i64 k, .int .i64 m]] V fun e w' => e = .panicked [stopP (opE r k m) (opA r k m)] ∧ Out 0 0 V w') := fun V o => open_no (Hr.out.quiet (HO2.out.trans o)) HA.out (o.cell HH'.out (.inr (Nat.zero_le _))) k m Hop.out
  go_enter_defers Tryz.func12, Tryz.ntmps12
  go_wp2_with fail
  (try rw [hV2])
  (try rw [hgv])
  clear hV2 hgv
  refine wp_region_held_drew (S := fun w' => w'.cell? ⟨gv, 0, none⟩ = some (.int .i64 k) ∧ w'.cell? ⟨gv, 1, none⟩ = some (.int .i64 m)) (by kernel_rfl) ?hS189 (fun hHeld => ?rest189)
  case hS189 => exact ⟨u0, u1⟩
  obtain ⟨Z0, hZ⟩ : ∃ Z, V2.drew = Z := ⟨_, rfl⟩
  have O : Out 0 0 V2 Z0 := by rw [← hZ]; exact (Out.refl 0 0 _).drew
  rw [hZ] at hHeld ⊢
  clear hZ
  refine wpAnyH_take (i := 0) (v := ?v190) rfl (by kernel_rfl) (by kernel_rfl) (by kernel_rfl) (fun _ _ _ h => leaves_tmps (results_put2 Tryz.results12 (by decide) (by decide) _ _) _ _ _ h) (Or.inl ⟨by rfl, ?hy190⟩) (by assumption) ?rest190
  case hy190 => (intro w hSw; (try dsimp only at hSw); simp only [xa, xb, xc]; go_simp; (try with_reducible rfl))
  (try simp only [Act.put, xa, xb, xc, xd, xe, xf])
  refine wpAnyH_take (i := 2) (v := ?v191) rfl (by kernel_rfl) (by kernel_rfl) (by kernel_rfl) (fun _ _ _ h => leaves_tmps (results_put2 Tryz.results12 (by decide) (by decide) _ _) _ _ _ h) (Or.inl ⟨by rfl, ?hy191⟩) (by assumption) ?rest191
  case hy191 => (intro w hSw; (try dsimp only at hSw); simp only [xa, xb, xc]; go_simp; (try with_reducible rfl))
  (try simp only [Act.put, xa, xb, xc, xd, xe, xf])
  refine wpAnyH_take (i := 4) (v := ?v192) rfl (by kernel_rfl) (by kernel_rfl) (by kernel_rfl) (fun _ _ _ h => leaves_tmps (results_put2 Tryz.results12 (by decide) (by decide) _ _) _ _ _ h) (Or.inl ⟨by rfl, ?hy192⟩) (by assumption) ?rest192
  case hy192 => (intro w hSw; (try dsimp only at hSw); simp only [xa, xb, xc]; go_simp; (try with_reducible rfl))
  (try simp only [Act.put, xa, xb, xc, xd, xe, xf])
  refine wpAnyH_ready (rs := [1]) (by kernel_rfl) (by simp) ?_
  refine AllReadyH.cons rfl (fun KK hK => ?_) AllReadyH.nil
  simp only [xa, xb, xc]
  go_simp
  refine (oself_any _ _).mono ?_
  rintro e w5 ⟨rfl, he⟩
  rw [he]
  clear he w5
  refine hK.out _ _ ?hS193 (fun hHeld2 => ?rest193)
  case hS193 => exact hHeld
  clear hK KK
  (try clear hHeld)
  have hHeld := hHeld2
  clear hHeld2
  (try simp only [Act.put, xa, xb, xc, xd, xe, xf])
  refine wpAnyH_ready (rs := [3]) (by kernel_rfl) (by simp) ?_
  refine AllReadyH.cons rfl (fun KK hK => ?_) AllReadyH.nil
  simp only [xa, xb, xc]
  go_simp
  refine (HOp.out _ O).mono ?_
  rintro e X3 ⟨rfl, q3⟩
  simp
  refine leaves_cons (f := 31) (args := #[.pointer (some ⟨gv + 2, 0, none⟩)]) (by simp) (by simp [go_sem]) ?_
  have O3 := O.trans q3
  refine (catchOpen_stop (O3.heap fF.out (.inr (Nat.zero_le _)))).mono ?_
  rintro e u' w9 ⟨rfl, rfl, f9, q9⟩
  exact leaves_ret (results_two Tryz.results12 rfl rfl (load_blk (q9.heap (O3.heap fR.out (.inr (Nat.zero_le _))) (.inl (Nat.lt_succ_self _)))) (load_flt f9)) ⟨rfl, (HO2.out.trans O3).trans' q9 (by have := Hgv.out; omega)⟩
end
end Go.Proofs.YtcpignkjlnjjmaaGreatDoor
