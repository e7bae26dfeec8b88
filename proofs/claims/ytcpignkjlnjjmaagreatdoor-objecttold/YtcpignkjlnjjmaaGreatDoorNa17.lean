import Derived.Test.YtcpignkjlnjjmaaGreatDoorNa16
namespace Go.Proofs.YtcpignkjlnjjmaaGreatDoor
open Go.RowKit
set_option linter.unusedVariables false
set_option linter.unusedSimpArgs false

theorem role_in {k s i : Int} (h : fieldB (roleV k s i) = true) : 1 ≤ i ∧ i < s := by
  unfold roleV at h
  by_cases c : fitsB k s = true ∧ 1 ≤ i ∧ i < s
  · exact c.2
  · rw [if_neg c] at h; exact absurd h (by decide)
theorem rg_valid {r : Raw} {ba : Int} {b : Blk} {role v : Int} (hf : fieldB role = true) (h : rgB r ba b role v = true) : validB_v (v % 8 + 1) (v / 8) = true := by
  unfold rgB at h
  unfold fieldB at hf
  rw [if_neg (by simp at hf; omega)] at h
  cases hv : validB_v (v % 8 + 1) (v / 8)
  · rw [hv, if_neg (by simp)] at h; exact absurd h (by decide)
  · rfl
theorem infoV (a b : Int) : (Tryz.prog.info? 31).map (·.size) = some (#[Value.int .i64 a, .int .i64 b]).size := by
  have : (Tryz.prog.info? 31).map (·.size) = some 2 := by kernel_rfl
  simpa using this
theorem load_val {w : World} {g : Nat} {x1 x2 : Int} (hg : w.heap[g]? = some (.cells #[.int .i64 x1, .int .i64 x2] 31 (0, 0))) : (loadVar 31 ⟨g, 0, none⟩).run Tryz.prog w = .ok (.agg #[.int .i64 x1, .int .i64 x2]) w :=
  run_loadVar_row w g 31 31 _ (0, 0) _ hg Tryz.underlying31 rfl (infoV x1 x2)
theorem val_set {w : World} {g : Nat} {x1 x2 : Int} {y1 y2 : Value} (h : w.heap[g]? = some (.cells #[y1, y2] 31 (0, 0))) : ((w.setCell ⟨g, 0, none⟩ (.int .i64 x1)).setCell ⟨g, 1, none⟩ (.int .i64 x2)).heap[g]? = some (.cells #[.int .i64 x1, .int .i64 x2] 31 (0, 0)) := by
  simp [World.setCell, Array.getElem?_modify, h]
section
variable {w : World} {lo hi hb : Nat} {s : Nat → Nat} {n cap : Nat} {r : Raw}
set_option maxRecDepth 100000 in
set_option maxHeartbeats 8000000 in
theorem Get_open (hr : RawAt w lo hi s n cap r) (hA : InArena n r) (hT : Tab w) (hH : w.cell? ⟨hb, 0, none⟩ = some (.pointer (some ⟨s 14, 0, none⟩))) (k m i : Int) (hop : opE r k m ≠ 0) : Calls Tryz.prog 14 #[.pointer (some ⟨hb, 0, none⟩), .agg #[.int .i64 k, .int .i64 m], .int .i64 i] w fun e w' => e = .returned (.tuple #[.agg #[.int .i64 0, .int .i64 0], .agg #[.int .i64 (opE r k m), .int .i64 (opA r k m)]]) ∧ Out 0 0 w w' := by
  have hmf : ∀ (fn : Fn) (first cap : Array Value) (w : World), (Instr.makeFunc fn first cap).run Tryz.prog w = .ok (.func fn first cap) w := fun _ _ _ _ => rfl
  have fV := hid_mk (three_first (w := w) (o := .cells #[.int .i64 k, .int .i64 m] 31) (o2 := .cells #[.int .i64 0, .int .i64 0] 31) (o3 := .cells #[.int .i64 0, .int .i64 0] 33))
  have fR := hid_mk (three_second (w := w) (o := .cells #[.int .i64 k, .int .i64 m] 31) (o2 := .cells #[.int .i64 0, .int .i64 0] 31) (o3 := .cells #[.int .i64 0, .int .i64 0] 33))
  have fF := hid_mk (three_third (w := w) (o := .cells #[.int .i64 k, .int .i64 m] 31) (o2 := .cells #[.int .i64 0, .int .i64 0] 31) (o3 := .cells #[.int .i64 0, .int .i64 0] 33))
  have HO2 := hid_mk ((((Out.refl 0 0 w).alloc (.cells #[.int .i64 k, .int .i64 m] 31)).alloc (.cells #[.int .i64 0, .int .i64 0] 31)).alloc (.cells #[.int .i64 0, .int .i64 0] 33))
  have Hr := hid_mk hr
  have HA := hid_mk hA
  have HT := hid_mk hT
  obtain ⟨gv, hgv⟩ : ∃ g, w.heap.size = g := ⟨_, rfl⟩
  have Hgv := hid_mk hgv
  obtain ⟨V2, hV2⟩ : ∃ V, ((w.alloc (.cells #[.int .i64 k, .int .i64 m] 31)).alloc (.cells #[.int .i64 0, .int .i64 0] 31)).alloc (.cells #[.int .i64 0, .int .i64 0] 33) = V := ⟨_, rfl⟩
  rw [hV2, hgv] at fV fR fF
  rw [hV2] at HO2
  have HH' := hid_mk (HO2.out.cell hH (.inr (Nat.zero_le _)))
  clear hH hr hA hT
  obtain ⟨u0, u1, u2, u3⟩ := val_facts fV.out
  have Hop := hid_mk hop
  clear hop
  have HOp : Hid (∀ V, Out 0 0 V2 V → Calls Tryz.prog 29 #[.pointer (some ⟨hb, 0, none⟩), .agg #[.int .i64 k, .int .i64 m]] V fun e w' => e = .panicked [stopP (opE r k m) (opA r k m)] ∧ Out 0 0 V w') := fun V o => open_no (Hr.out.quiet (HO2.out.trans o)) HA.out (o.cell HH'.out (.inr (Nat.zero_le _))) k m Hop.out
  go_enter_defers Tryz.func14, Tryz.ntmps14
  go_wp2_with fail
  (try rw [hV2])
  (try rw [hgv])
  clear hV2 hgv
  refine (oself_any _ _).mono ?_
  rintro e w5 ⟨rfl, he⟩
  rw [he]
  clear he w5
  go_wp2_with fail
  refine (HOp.out V2 (Out.refl 0 0 _)).mono ?_
  rintro e X3 ⟨rfl, q3⟩
  simp
  refine leaves_cons (f := 33) (args := #[.pointer (some ⟨gv + 2, 0, none⟩)]) (by simp) (by simp [go_sem]) ?_
  refine (catchGet_stop (q3.heap fF.out (.inr (Nat.zero_le _)))).mono ?_
  rintro e u' w9 ⟨rfl, rfl, f9, q9⟩
  exact leaves_ret (results_two Tryz.results14 rfl rfl (load_val (q9.heap (q3.heap fR.out (.inr (Nat.zero_le _))) (.inl (Nat.lt_succ_self _)))) (load_flt f9)) ⟨rfl, (HO2.out.trans q3).trans' q9 (by have := Hgv.out; omega)⟩
set_option maxRecDepth 100000 in
set_option maxHeartbeats 8000000 in
theorem Get_field (hr : RawAt w lo hi s n cap r) (hA : InArena n r) (hT : Tab w) (hH : w.cell? ⟨hb, 0, none⟩ = some (.pointer (some ⟨s 14, 0, none⟩))) (k m i : Int) {t1 t2 t3 t4 : Int} (hM : r.M m = some (t1, t2, t3, t4)) (hop : opE r k m = 0) (hf : fieldB (roleV t1 t2 i) = false) : Calls Tryz.prog 14 #[.pointer (some ⟨hb, 0, none⟩), .agg #[.int .i64 k, .int .i64 m], .int .i64 i] w fun e w' => e = .returned (.tuple #[.agg #[.int .i64 0, .int .i64 0], .agg #[.int .i64 32, .int .i64 0]]) ∧ Out 0 0 w w' := by
  have hmf : ∀ (fn : Fn) (first cap : Array Value) (w : World), (Instr.makeFunc fn first cap).run Tryz.prog w = .ok (.func fn first cap) w := fun _ _ _ _ => rfl
  have fV := hid_mk (three_first (w := w) (o := .cells #[.int .i64 k, .int .i64 m] 31) (o2 := .cells #[.int .i64 0, .int .i64 0] 31) (o3 := .cells #[.int .i64 0, .int .i64 0] 33))
  have fR := hid_mk (three_second (w := w) (o := .cells #[.int .i64 k, .int .i64 m] 31) (o2 := .cells #[.int .i64 0, .int .i64 0] 31) (o3 := .cells #[.int .i64 0, .int .i64 0] 33))
  have fF := hid_mk (three_third (w := w) (o := .cells #[.int .i64 k, .int .i64 m] 31) (o2 := .cells #[.int .i64 0, .int .i64 0] 31) (o3 := .cells #[.int .i64 0, .int .i64 0] 33))
  have HO2 := hid_mk ((((Out.refl 0 0 w).alloc (.cells #[.int .i64 k, .int .i64 m] 31)).alloc (.cells #[.int .i64 0, .int .i64 0] 31)).alloc (.cells #[.int .i64 0, .int .i64 0] 33))
  have Hr := hid_mk hr
  have HA := hid_mk hA
  have HT := hid_mk hT
  obtain ⟨gv, hgv⟩ : ∃ g, w.heap.size = g := ⟨_, rfl⟩
  have Hgv := hid_mk hgv
  obtain ⟨V2, hV2⟩ : ∃ V, ((w.alloc (.cells #[.int .i64 k, .int .i64 m] 31)).alloc (.cells #[.int .i64 0, .int .i64 0] 31)).alloc (.cells #[.int .i64 0, .int .i64 0] 33) = V := ⟨_, rfl⟩
  rw [hV2, hgv] at fV fR fF
  rw [hV2] at HO2
  have HH' := hid_mk (HO2.out.cell hH (.inr (Nat.zero_le _)))
  clear hH hr hA hT
  obtain ⟨u0, u1, u2, u3⟩ := val_facts fV.out
  have Hop := hid_mk hop
  have HM := hid_mk hM
  have Hs : Hid (1 ≤ t2 ∧ t2 ≤ 1024 ∧ 0 ≤ m ∧ m + t2 ≤ 64 * n) := by have q := HA.out m _ hM; exact ⟨q.2.2.1, q.2.2.2, q.1, q.2.1⟩
  clear hop hM
  have Hf := hid_mk hf
  clear hf
  have HFd : Hid (∀ V, Out 0 0 V2 V → Calls Tryz.prog 34 #[.agg #[.int .i64 m, .int .i64 t1, .int .i64 t2, .int .i64 t3, .int .i64 t4], .int .i64 i] V fun e w' => e = .panicked [stopP 32 0] ∧ Out 0 0 V w') := fun V o => field_no m t1 t2 t3 t4 i (HT.out.quiet (HO2.out.trans o)) (by have := Hs.out; omega) (by have := Hs.out; omega) Hf.out
  have HOp : Hid (∀ V, Out 0 0 V2 V → Calls Tryz.prog 29 #[.pointer (some ⟨hb, 0, none⟩), .agg #[.int .i64 k, .int .i64 m]] V fun e w' => e = .returned (.agg #[.int .i64 m, .int .i64 t1, .int .i64 t2, .int .i64 t3, .int .i64 t4]) ∧ Out 0 0 V w') := fun V o => by
    obtain ⟨a1, a2, a3, a4, h1, h2⟩ := open_yes (Hr.out.quiet (HO2.out.trans o)) HA.out (o.cell HH'.out (.inr (Nat.zero_le _))) k m Hop.out
    rw [HM.out] at h1
    simp only [Option.some.injEq, Prod.mk.injEq] at h1
    obtain ⟨rfl, rfl, rfl, rfl⟩ := h1
    exact h2
  go_enter_defers Tryz.func14, Tryz.ntmps14
  go_wp2_with fail
  (try rw [hV2])
  (try rw [hgv])
  clear hV2 hgv
  refine (oself_any _ _).mono ?_
  rintro e w5 ⟨rfl, he⟩
  rw [he]
  clear he w5
  go_wp2_with fail
  refine (HOp.out V2 (Out.refl 0 0 _)).mono ?_
  rintro e X3 ⟨rfl, q3⟩
  obtain ⟨gb, hgb⟩ : ∃ g, X3.heap.size = g := ⟨_, rfl⟩
  obtain ⟨V4, hV4⟩ : ∃ V, X3.alloc (.cells #[.int .i64 m, .int .i64 t1, .int .i64 t2, .int .i64 t3, .int .i64 t4] 44) = V := ⟨_, rfl⟩
  have fB : V4.heap[gb]? = some (.cells #[.int .i64 m, .int .i64 t1, .int .i64 t2, .int .i64 t3, .int .i64 t4] 44 (0, 0)) := by rw [← hV4, ← hgb]; exact heap_alloc_new _ _
  have O4 : Out 0 0 V2 V4 := by rw [← hV4]; exact q3.alloc _
  obtain ⟨y0, y1, y2, y3, y4, y5⟩ := blk5 fB
  have HB4 := hid_mk fB
  have HO4 := hid_mk O4
  clear fB O4 q3 u0 u1 u2 u3
  go_wp2_with fail
  (try rw [hV4])
  (try rw [hgb])
  clear hV4 hgb
  refine (HFd.out V4 HO4.out).mono ?_
  rintro e X5 ⟨rfl, q5⟩
  have O5 := HO4.out.trans q5
  clear q5
  simp
  refine leaves_cons (f := 33) (args := #[.pointer (some ⟨gv + 2, 0, none⟩)]) (by simp) (by simp [go_sem]) ?_
  refine (catchGet_stop (O5.heap fF.out (.inr (Nat.zero_le _)))).mono ?_
  rintro e u' w9 ⟨rfl, rfl, f9, q9⟩
  exact leaves_ret (results_two Tryz.results14 rfl rfl (load_val (q9.heap (O5.heap fR.out (.inr (Nat.zero_le _))) (.inl (Nat.lt_succ_self _)))) (load_flt f9)) ⟨rfl, (HO2.out.trans O5).trans' q9 (by have := Hgv.out; omega)⟩
set_option maxRecDepth 100000 in
set_option maxHeartbeats 8000000 in
theorem Get_wrong (hr : RawAt w lo hi s n cap r) (hA : InArena n r) (hT : Tab w) (hH : w.cell? ⟨hb, 0, none⟩ = some (.pointer (some ⟨s 14, 0, none⟩))) (k m i : Int) {t1 t2 t3 t4 : Int} (hM : r.M m = some (t1, t2, t3, t4)) (hop : opE r k m = 0) (hn : n ≤ 4096) (hf : fieldB (roleV t1 t2 i) = true) (hg : rgB r m (t1, t2, t3, t4) (roleV t1 t2 i) (peekV n r.W (m + i)) = false) : Calls Tryz.prog 14 #[.pointer (some ⟨hb, 0, none⟩), .agg #[.int .i64 k, .int .i64 m], .int .i64 i] w fun e w' => e = .returned (.tuple #[.agg #[.int .i64 0, .int .i64 0], .agg #[.int .i64 21, .int .i64 (m + i)]]) ∧ Out 0 0 w w' := by
  have hmf : ∀ (fn : Fn) (first cap : Array Value) (w : World), (Instr.makeFunc fn first cap).run Tryz.prog w = .ok (.func fn first cap) w := fun _ _ _ _ => rfl
  have fV := hid_mk (three_first (w := w) (o := .cells #[.int .i64 k, .int .i64 m] 31) (o2 := .cells #[.int .i64 0, .int .i64 0] 31) (o3 := .cells #[.int .i64 0, .int .i64 0] 33))
  have fR := hid_mk (three_second (w := w) (o := .cells #[.int .i64 k, .int .i64 m] 31) (o2 := .cells #[.int .i64 0, .int .i64 0] 31) (o3 := .cells #[.int .i64 0, .int .i64 0] 33))
  have fF := hid_mk (three_third (w := w) (o := .cells #[.int .i64 k, .int .i64 m] 31) (o2 := .cells #[.int .i64 0, .int .i64 0] 31) (o3 := .cells #[.int .i64 0, .int .i64 0] 33))
  have HO2 := hid_mk ((((Out.refl 0 0 w).alloc (.cells #[.int .i64 k, .int .i64 m] 31)).alloc (.cells #[.int .i64 0, .int .i64 0] 31)).alloc (.cells #[.int .i64 0, .int .i64 0] 33))
  have Hr := hid_mk hr
  have HA := hid_mk hA
  have HT := hid_mk hT
  obtain ⟨gv, hgv⟩ : ∃ g, w.heap.size = g := ⟨_, rfl⟩
  have Hgv := hid_mk hgv
  obtain ⟨V2, hV2⟩ : ∃ V, ((w.alloc (.cells #[.int .i64 k, .int .i64 m] 31)).alloc (.cells #[.int .i64 0, .int .i64 0] 31)).alloc (.cells #[.int .i64 0, .int .i64 0] 33) = V := ⟨_, rfl⟩
  rw [hV2, hgv] at fV fR fF
  rw [hV2] at HO2
  have HH' := hid_mk (HO2.out.cell hH (.inr (Nat.zero_le _)))
  clear hH hr hA hT
  obtain ⟨u0, u1, u2, u3⟩ := val_facts fV.out
  have Hop := hid_mk hop
  have HM := hid_mk hM
  have Hs : Hid (1 ≤ t2 ∧ t2 ≤ 1024 ∧ 0 ≤ m ∧ m + t2 ≤ 64 * n) := by have q := HA.out m _ hM; exact ⟨q.2.2.1, q.2.2.2, q.1, q.2.1⟩
  clear hop hM
  have Hf := hid_mk hf
  have Hg := hid_mk hg
  have hwr : IntKind.i64.wrap (m + i) = m + i := by have h1 := role_in hf; have h2 := Hs.out; rw [IntKind.wrap_i64]; omega
  have m1 : -9223372036854775808 ≤ m + i := by have h1 := role_in hf; have h2 := Hs.out; omega
  have m2 : m + i ≤ 9223372036854775807 := by have h1 := role_in hf; have h2 := Hs.out; omega
  clear hg hf
  have HFd : Hid (∀ V, Out 0 0 V2 V → Calls Tryz.prog 34 #[.agg #[.int .i64 m, .int .i64 t1, .int .i64 t2, .int .i64 t3, .int .i64 t4], .int .i64 i] V fun e w' => e = .returned (.int .i64 (roleV t1 t2 i)) ∧ Out 0 0 V w') := fun V o => field_yes m t1 t2 t3 t4 i (HT.out.quiet (HO2.out.trans o)) (by have := Hs.out; omega) (by have := Hs.out; omega) Hf.out
  have HOp : Hid (∀ V, Out 0 0 V2 V → Calls Tryz.prog 29 #[.pointer (some ⟨hb, 0, none⟩), .agg #[.int .i64 k, .int .i64 m]] V fun e w' => e = .returned (.agg #[.int .i64 m, .int .i64 t1, .int .i64 t2, .int .i64 t3, .int .i64 t4]) ∧ Out 0 0 V w') := fun V o => by
    obtain ⟨a1, a2, a3, a4, h1, h2⟩ := open_yes (Hr.out.quiet (HO2.out.trans o)) HA.out (o.cell HH'.out (.inr (Nat.zero_le _))) k m Hop.out
    rw [HM.out] at h1
    simp only [Option.some.injEq, Prod.mk.injEq] at h1
    obtain ⟨rfl, rfl, rfl, rfl⟩ := h1
    exact h2
  go_enter_defers Tryz.func14, Tryz.ntmps14
  go_wp2_with fail
  (try rw [hV2])
  (try rw [hgv])
  clear hV2 hgv
  refine (oself_any _ _).mono ?_
  rintro e w5 ⟨rfl, he⟩
  rw [he]
  clear he w5
  go_wp2_with fail
  refine (HOp.out V2 (Out.refl 0 0 _)).mono ?_
  rintro e X3 ⟨rfl, q3⟩
  obtain ⟨gb, hgb⟩ : ∃ g, X3.heap.size = g := ⟨_, rfl⟩
  obtain ⟨V4, hV4⟩ : ∃ V, X3.alloc (.cells #[.int .i64 m, .int .i64 t1, .int .i64 t2, .int .i64 t3, .int .i64 t4] 44) = V := ⟨_, rfl⟩
  have fB : V4.heap[gb]? = some (.cells #[.int .i64 m, .int .i64 t1, .int .i64 t2, .int .i64 t3, .int .i64 t4] 44 (0, 0)) := by rw [← hV4, ← hgb]; exact heap_alloc_new _ _
  have O4 : Out 0 0 V2 V4 := by rw [← hV4]; exact q3.alloc _
  obtain ⟨y0, y1, y2, y3, y4, y5⟩ := blk5 fB
  have HB4 := hid_mk fB
  have HO4 := hid_mk O4
  clear fB O4 q3 u0 u1 u2 u3
  go_wp2_with fail
  (try rw [hV4])
  (try rw [hgb])
  clear hV4 hgb
  refine (HFd.out V4 HO4.out).mono ?_
  rintro e X5 ⟨rfl, q5⟩
  have y6 := (HO4.out.trans q5).cell HH'.out (.inr (Nat.zero_le _))
  obtain ⟨x0, x1, x2, x3, x4, x5⟩ := blk5 (q5.heap HB4.out (.inr (Nat.zero_le _)))
  have HO5 := hid_mk (HO4.out.trans q5)
  have HB5 := hid_mk (q5.heap HB4.out (.inr (Nat.zero_le _)))
  clear q5 y0 y1 y2 y3 y4 y5
  generalize roleV t1 t2 i = role at *
  go_wp2_with fail
  refine wp_region_held_drew (S := fun w' => w'.cell? ⟨hb, 0, none⟩ = some (.pointer (some ⟨s 14, 0, none⟩)) ∧ w'.cell? ⟨gb, 0, none⟩ = some (.int .i64 m) ∧ Out 0 0 X5 w') (by kernel_rfl) ?hS197 (fun hHeld => ?rest197)
  case hS197 => exact ⟨y6, x0, (Out.refl 0 0 _).drew⟩
  refine wpAnyH_take (i := 0) (v := ?v198) rfl (by kernel_rfl) (by kernel_rfl) (by kernel_rfl) (fun _ _ _ h => leaves_tmps (results_put2 Tryz.results14 (by decide) (by decide) _ _) _ _ _ h) (Or.inl ⟨by rfl, ?hy198⟩) (by assumption) ?rest198
  case hy198 => (intro w hSw; (try dsimp only at hSw); simp only [xa, xb, xc]; go_simp; (try with_reducible rfl))
  (try simp only [Act.put, xa, xb, xc, xd, xe, xf])
  refine wpAnyH_take (i := 1) (v := ?v199) rfl (by kernel_rfl) (by kernel_rfl) (by kernel_rfl) (fun _ _ _ h => leaves_tmps (results_put2 Tryz.results14 (by decide) (by decide) _ _) _ _ _ h) (Or.inl ⟨by rfl, ?hy199⟩) (by assumption) ?rest199
  case hy199 => (intro w hSw; (try dsimp only at hSw); simp only [xa, xb, xc]; go_simp; (try with_reducible rfl))
  (try simp only [Act.put, xa, xb, xc, xd, xe, xf])
  refine wpAnyH_take (i := 2) (v := ?v200) rfl (by kernel_rfl) (by kernel_rfl) (by kernel_rfl) (fun _ _ _ h => leaves_tmps (results_put2 Tryz.results14 (by decide) (by decide) _ _) _ _ _ h) (Or.inl ⟨by rfl, ?hy200⟩) (by assumption) ?rest200
  case hy200 => (intro w hSw; (try dsimp only at hSw); simp only [xa, xb, xc]; go_simp; (try with_reducible rfl))
  (try simp only [Act.put, xa, xb, xc, xd, xe, xf])
  refine wpAnyH_take (i := 3) (v := ?v201) rfl (by kernel_rfl) (by kernel_rfl) (by kernel_rfl) (fun _ _ _ h => leaves_tmps (results_put2 Tryz.results14 (by decide) (by decide) _ _) _ _ _ h) (Or.inl ⟨by rfl, ?hy201⟩) (by assumption) ?rest201
  case hy201 => (intro w hSw; (try dsimp only at hSw); simp only [xa, xb, xc]; go_simp; (try with_reducible rfl))
  (try simp only [Act.put, xa, xb, xc, xd, xe, xf])
  refine wpAnyH_take (i := 4) (v := ?v202) rfl (by kernel_rfl) (by kernel_rfl) (by kernel_rfl) (fun _ _ _ h => leaves_tmps (results_put2 Tryz.results14 (by decide) (by decide) _ _) _ _ _ h) (Or.inl ⟨by rfl, ?hy202⟩) (by assumption) ?rest202
  case hy202 => (intro w hSw; (try dsimp only at hSw); simp only [xa, xb, xc]; go_simp; (try with_reducible rfl))
  (try simp only [Act.put, xa, xb, xc, xd, xe, xf])
  refine wpAnyH_take (i := 5) (v := ?v203) rfl (by kernel_rfl) (by kernel_rfl) (by kernel_rfl) (fun _ _ _ h => leaves_tmps (results_put2 Tryz.results14 (by decide) (by decide) _ _) _ _ _ h) (Or.inl ⟨by rfl, ?hy203⟩) (by assumption) ?rest203
  case hy203 => (intro w hSw; (try dsimp only at hSw); simp only [xa, xb, xc]; go_simp; (try with_reducible rfl))
  (try simp only [Act.put, xa, xb, xc, xd, xe, xf])
  refine wpAnyH_take (i := 6) (v := ?v204) rfl (by kernel_rfl) (by kernel_rfl) (by kernel_rfl) (fun _ _ _ h => leaves_tmps (results_put2 Tryz.results14 (by decide) (by decide) _ _) _ _ _ h) (Or.inl ⟨by rfl, ?hy204⟩) (by assumption) ?rest204
  case hy204 => (intro w hSw; (try dsimp only at hSw); simp only [xa, xb, xc]; go_simp; (try with_reducible rfl))
  (try simp only [Act.put, xa, xb, xc, xd, xe, xf])
  refine wpAnyH_take (i := 7) (v := ?v205) rfl (by kernel_rfl) (by kernel_rfl) (by kernel_rfl) (fun _ _ _ h => leaves_tmps (results_put2 Tryz.results14 (by decide) (by decide) _ _) _ _ _ h) (Or.inl ⟨by rfl, ?hy205⟩) (by assumption) ?rest205
  case hy205 => (intro w hSw; (try dsimp only at hSw); simp only [xa, xb, xc]; go_simp; (try with_reducible rfl))
  (try simp only [Act.put, xa, xb, xc, xd, xe, xf])
  refine wpAnyH_ready (rs := [8]) (by kernel_rfl) (by simp) ?_
  refine AllReadyH.cons rfl (fun KK hK => ?_) AllReadyH.nil
  simp only [xa, xb, xc]
  go_simp
  refine (peek_any (Hr.out.quiet (HO2.out.trans (HO5.out.trans hHeld.2.2))) (m + i)).mono ?_
  rintro e w6 ⟨rfl, he⟩
  rw [he]
  clear he w6
  refine hK.out _ _ ?hS206 (fun hHeld2 => ?rest206)
  case hS206 => exact hHeld
  clear hK KK
  (try clear hHeld)
  have hHeld := hHeld2
  clear hHeld2
  (try simp only [Act.put, xa, xb, xc, xd, xe, xf])
  refine wpAnyH_take (i := 9) (v := ?v207) rfl (by kernel_rfl) (by kernel_rfl) (by kernel_rfl) (fun _ _ _ h => leaves_tmps (results_put2 Tryz.results14 (by decide) (by decide) _ _) _ _ _ h) (Or.inl ⟨by rfl, ?hy207⟩) (by assumption) ?rest207
  case hy207 => (intro w hSw; (try dsimp only at hSw); simp only [xa, xb, xc]; go_simp; (try with_reducible rfl))
  (try simp only [Act.put, xa, xb, xc, xd, xe, xf])
  refine wpAnyH_take (i := 10) (v := ?v208) rfl (by kernel_rfl) (by kernel_rfl) (by kernel_rfl) (fun _ _ _ h => leaves_tmps (results_put2 Tryz.results14 (by decide) (by decide) _ _) _ _ _ h) (Or.inl ⟨by rfl, ?hy208⟩) (by assumption) ?rest208
  case hy208 => (intro w hSw; (try dsimp only at hSw); simp only [xa, xb, xc]; go_simp; (try with_reducible rfl))
  (try simp only [Act.put, xa, xb, xc, xd, xe, xf])
  refine wpAnyH_take (i := 11) (v := ?v209) rfl (by kernel_rfl) (by kernel_rfl) (by kernel_rfl) (fun _ _ _ h => leaves_tmps (results_put2 Tryz.results14 (by decide) (by decide) _ _) _ _ _ h) (Or.inl ⟨by rfl, ?hy209⟩) (by assumption) ?rest209
  case hy209 => (intro w hSw; (try dsimp only at hSw); simp only [xa, xb, xc]; go_simp; (try with_reducible rfl))
  (try simp only [Act.put, xa, xb, xc, xd, xe, xf])
  refine wpAnyH_take (i := 12) (v := ?v210) rfl (by kernel_rfl) (by kernel_rfl) (by kernel_rfl) (fun _ _ _ h => leaves_tmps (results_put2 Tryz.results14 (by decide) (by decide) _ _) _ _ _ h) (Or.inl ⟨by rfl, ?hy210⟩) (by assumption) ?rest210
  case hy210 => (intro w hSw; (try dsimp only at hSw); simp only [xa, xb, xc]; go_simp; (try with_reducible rfl))
  (try simp only [Act.put, xa, xb, xc, xd, xe, xf])
  refine wpAnyH_take (i := 13) (v := ?v211) rfl (by kernel_rfl) (by kernel_rfl) (by kernel_rfl) (fun _ _ _ h => leaves_tmps (results_put2 Tryz.results14 (by decide) (by decide) _ _) _ _ _ h) (Or.inl ⟨by rfl, ?hy211⟩) (by assumption) ?rest211
  case hy211 => (intro w hSw; (try dsimp only at hSw); simp only [xa, xb, xc]; go_simp; (try with_reducible rfl))
  (try simp only [Act.put, xa, xb, xc, xd, xe, xf])
  refine wpAnyH_done (by kernel_rfl) ?_ _
  have HO6 := hid_mk (HO5.out.trans hHeld.2.2)
  obtain ⟨X6, hX6⟩ : ∃ X, X5.drew = X := ⟨_, rfl⟩
  rw [hX6] at HO6 hHeld ⊢
  have HB6 := hid_mk (hHeld.2.2.heap HB5.out (.inr (Nat.zero_le _)))
  obtain ⟨z0', z1', z2', z3', z4', z5'⟩ := blk5 HB6.out
  clear hHeld hX6 x0 x1 x2 x3 x4 x5 y6
  generalize hpv : peekV n r.W (m + i) = pv at *
  have Hpv := hid_mk hpv
  clear hpv
  go_wp2_with fail
  refine (right_any (Hr.out.quiet (HO2.out.trans HO6.out)) (HO6.out.cell HH'.out (.inr (Nat.zero_le _))) m t1 t2 t3 t4 role pv).mono ?_
  rw [Hg.out]
  rintro e X7 ⟨rfl, q7⟩
  have HO7 := hid_mk (HO6.out.trans q7)
  obtain ⟨x0, x1, x2, x3, x4, x5⟩ := blk5 (q7.heap HB6.out (.inr (Nat.zero_le _)))
  clear q7 z0' z1' z2' z3' z4' z5'
  go_wp2_with fail
  refine (fail_no (by decide) _ _).mono ?_
  rintro e X8 ⟨rfl, q8⟩
  have O8 := HO7.out.trans q8
  clear q8
  simp
  refine leaves_cons (f := 33) (args := #[.pointer (some ⟨gv + 2, 0, none⟩)]) (by simp) (by simp [go_sem]) ?_
  refine (catchGet_stop (O8.heap fF.out (.inr (Nat.zero_le _)))).mono ?_
  rintro e u' w9 ⟨rfl, rfl, f9, q9⟩
  exact leaves_ret (results_two Tryz.results14 rfl rfl (load_val (q9.heap (O8.heap fR.out (.inr (Nat.zero_le _))) (.inl (Nat.lt_succ_self _)))) (load_flt f9)) ⟨rfl, (HO2.out.trans O8).trans' q9 (by have := Hgv.out; omega)⟩
set_option maxRecDepth 100000 in
set_option maxHeartbeats 8000000 in
theorem Get_yes (hr : RawAt w lo hi s n cap r) (hA : InArena n r) (hT : Tab w) (hH : w.cell? ⟨hb, 0, none⟩ = some (.pointer (some ⟨s 14, 0, none⟩))) (k m i : Int) {t1 t2 t3 t4 : Int} (hM : r.M m = some (t1, t2, t3, t4)) (hop : opE r k m = 0) (hn : n ≤ 4096) (hf : fieldB (roleV t1 t2 i) = true) (hg : rgB r m (t1, t2, t3, t4) (roleV t1 t2 i) (peekV n r.W (m + i)) = true) : Calls Tryz.prog 14 #[.pointer (some ⟨hb, 0, none⟩), .agg #[.int .i64 k, .int .i64 m], .int .i64 i] w fun e w' => e = .returned (.tuple #[.agg #[.int .i64 (peekV n r.W (m + i) % 8 + 1), .int .i64 (peekV n r.W (m + i) / 8)], .agg #[.int .i64 0, .int .i64 0]]) ∧ Out 0 0 w w' := by
  have hmf : ∀ (fn : Fn) (first cap : Array Value) (w : World), (Instr.makeFunc fn first cap).run Tryz.prog w = .ok (.func fn first cap) w := fun _ _ _ _ => rfl
  have fV := hid_mk (three_first (w := w) (o := .cells #[.int .i64 k, .int .i64 m] 31) (o2 := .cells #[.int .i64 0, .int .i64 0] 31) (o3 := .cells #[.int .i64 0, .int .i64 0] 33))
  have fR := hid_mk (three_second (w := w) (o := .cells #[.int .i64 k, .int .i64 m] 31) (o2 := .cells #[.int .i64 0, .int .i64 0] 31) (o3 := .cells #[.int .i64 0, .int .i64 0] 33))
  have fF := hid_mk (three_third (w := w) (o := .cells #[.int .i64 k, .int .i64 m] 31) (o2 := .cells #[.int .i64 0, .int .i64 0] 31) (o3 := .cells #[.int .i64 0, .int .i64 0] 33))
  have HO2 := hid_mk ((((Out.refl 0 0 w).alloc (.cells #[.int .i64 k, .int .i64 m] 31)).alloc (.cells #[.int .i64 0, .int .i64 0] 31)).alloc (.cells #[.int .i64 0, .int .i64 0] 33))
  have Hr := hid_mk hr
  have HA := hid_mk hA
  have HT := hid_mk hT
  obtain ⟨gv, hgv⟩ : ∃ g, w.heap.size = g := ⟨_, rfl⟩
  have Hgv := hid_mk hgv
  obtain ⟨V2, hV2⟩ : ∃ V, ((w.alloc (.cells #[.int .i64 k, .int .i64 m] 31)).alloc (.cells #[.int .i64 0, .int .i64 0] 31)).alloc (.cells #[.int .i64 0, .int .i64 0] 33) = V := ⟨_, rfl⟩
  rw [hV2, hgv] at fV fR fF
  rw [hV2] at HO2
  have HH' := hid_mk (HO2.out.cell hH (.inr (Nat.zero_le _)))
  clear hH hr hA hT
  obtain ⟨u0, u1, u2, u3⟩ := val_facts fV.out
  have Hop := hid_mk hop
  have HM := hid_mk hM
  have Hs : Hid (1 ≤ t2 ∧ t2 ≤ 1024 ∧ 0 ≤ m ∧ m + t2 ≤ 64 * n) := by have q := HA.out m _ hM; exact ⟨q.2.2.1, q.2.2.2, q.1, q.2.1⟩
  clear hop hM
  have Hf := hid_mk hf
  have Hg := hid_mk hg
  have hwr : IntKind.i64.wrap (m + i) = m + i := by have h1 := role_in hf; have h2 := Hs.out; rw [IntKind.wrap_i64]; omega
  have m1 : -9223372036854775808 ≤ m + i := by have h1 := role_in hf; have h2 := Hs.out; omega
  have m2 : m + i ≤ 9223372036854775807 := by have h1 := role_in hf; have h2 := Hs.out; omega
  have HRd := hid_mk (fun V => read_yes (v := peekV n r.W (m + i)) rfl rfl (rg_valid Hf.out Hg.out) V)
  clear hg hf
  have HFd : Hid (∀ V, Out 0 0 V2 V → Calls Tryz.prog 34 #[.agg #[.int .i64 m, .int .i64 t1, .int .i64 t2, .int .i64 t3, .int .i64 t4], .int .i64 i] V fun e w' => e = .returned (.int .i64 (roleV t1 t2 i)) ∧ Out 0 0 V w') := fun V o => field_yes m t1 t2 t3 t4 i (HT.out.quiet (HO2.out.trans o)) (by have := Hs.out; omega) (by have := Hs.out; omega) Hf.out
  have HOp : Hid (∀ V, Out 0 0 V2 V → Calls Tryz.prog 29 #[.pointer (some ⟨hb, 0, none⟩), .agg #[.int .i64 k, .int .i64 m]] V fun e w' => e = .returned (.agg #[.int .i64 m, .int .i64 t1, .int .i64 t2, .int .i64 t3, .int .i64 t4]) ∧ Out 0 0 V w') := fun V o => by
    obtain ⟨a1, a2, a3, a4, h1, h2⟩ := open_yes (Hr.out.quiet (HO2.out.trans o)) HA.out (o.cell HH'.out (.inr (Nat.zero_le _))) k m Hop.out
    rw [HM.out] at h1
    simp only [Option.some.injEq, Prod.mk.injEq] at h1
    obtain ⟨rfl, rfl, rfl, rfl⟩ := h1
    exact h2
  go_enter_defers Tryz.func14, Tryz.ntmps14
  go_wp2_with fail
  (try rw [hV2])
  (try rw [hgv])
  clear hV2 hgv
  refine (oself_any _ _).mono ?_
  rintro e w5 ⟨rfl, he⟩
  rw [he]
  clear he w5
  go_wp2_with fail
  refine (HOp.out V2 (Out.refl 0 0 _)).mono ?_
  rintro e X3 ⟨rfl, q3⟩
  obtain ⟨gb, hgb⟩ : ∃ g, X3.heap.size = g := ⟨_, rfl⟩
  obtain ⟨V4, hV4⟩ : ∃ V, X3.alloc (.cells #[.int .i64 m, .int .i64 t1, .int .i64 t2, .int .i64 t3, .int .i64 t4] 44) = V := ⟨_, rfl⟩
  have fB : V4.heap[gb]? = some (.cells #[.int .i64 m, .int .i64 t1, .int .i64 t2, .int .i64 t3, .int .i64 t4] 44 (0, 0)) := by rw [← hV4, ← hgb]; exact heap_alloc_new _ _
  have O4 : Out 0 0 V2 V4 := by rw [← hV4]; exact q3.alloc _
  obtain ⟨y0, y1, y2, y3, y4, y5⟩ := blk5 fB
  have HB4 := hid_mk fB
  have HO4 := hid_mk O4
  clear fB O4 q3 u0 u1 u2 u3
  go_wp2_with fail
  (try rw [hV4])
  (try rw [hgb])
  clear hV4 hgb
  refine (HFd.out V4 HO4.out).mono ?_
  rintro e X5 ⟨rfl, q5⟩
  have y6 := (HO4.out.trans q5).cell HH'.out (.inr (Nat.zero_le _))
  obtain ⟨x0, x1, x2, x3, x4, x5⟩ := blk5 (q5.heap HB4.out (.inr (Nat.zero_le _)))
  have HO5 := hid_mk (HO4.out.trans q5)
  have HB5 := hid_mk (q5.heap HB4.out (.inr (Nat.zero_le _)))
  clear q5 y0 y1 y2 y3 y4 y5
  generalize roleV t1 t2 i = role at *
  go_wp2_with fail
  refine wp_region_held_drew (S := fun w' => w'.cell? ⟨hb, 0, none⟩ = some (.pointer (some ⟨s 14, 0, none⟩)) ∧ w'.cell? ⟨gb, 0, none⟩ = some (.int .i64 m) ∧ Out 0 0 X5 w') (by kernel_rfl) ?hS212 (fun hHeld => ?rest212)
  case hS212 => exact ⟨y6, x0, (Out.refl 0 0 _).drew⟩
  refine wpAnyH_take (i := 0) (v := ?v213) rfl (by kernel_rfl) (by kernel_rfl) (by kernel_rfl) (fun _ _ _ h => leaves_tmps (results_put2 Tryz.results14 (by decide) (by decide) _ _) _ _ _ h) (Or.inl ⟨by rfl, ?hy213⟩) (by assumption) ?rest213
  case hy213 => (intro w hSw; (try dsimp only at hSw); simp only [xa, xb, xc]; go_simp; (try with_reducible rfl))
  (try simp only [Act.put, xa, xb, xc, xd, xe, xf])
  refine wpAnyH_take (i := 1) (v := ?v214) rfl (by kernel_rfl) (by kernel_rfl) (by kernel_rfl) (fun _ _ _ h => leaves_tmps (results_put2 Tryz.results14 (by decide) (by decide) _ _) _ _ _ h) (Or.inl ⟨by rfl, ?hy214⟩) (by assumption) ?rest214
  case hy214 => (intro w hSw; (try dsimp only at hSw); simp only [xa, xb, xc]; go_simp; (try with_reducible rfl))
  (try simp only [Act.put, xa, xb, xc, xd, xe, xf])
  refine wpAnyH_take (i := 2) (v := ?v215) rfl (by kernel_rfl) (by kernel_rfl) (by kernel_rfl) (fun _ _ _ h => leaves_tmps (results_put2 Tryz.results14 (by decide) (by decide) _ _) _ _ _ h) (Or.inl ⟨by rfl, ?hy215⟩) (by assumption) ?rest215
  case hy215 => (intro w hSw; (try dsimp only at hSw); simp only [xa, xb, xc]; go_simp; (try with_reducible rfl))
  (try simp only [Act.put, xa, xb, xc, xd, xe, xf])
  refine wpAnyH_take (i := 3) (v := ?v216) rfl (by kernel_rfl) (by kernel_rfl) (by kernel_rfl) (fun _ _ _ h => leaves_tmps (results_put2 Tryz.results14 (by decide) (by decide) _ _) _ _ _ h) (Or.inl ⟨by rfl, ?hy216⟩) (by assumption) ?rest216
  case hy216 => (intro w hSw; (try dsimp only at hSw); simp only [xa, xb, xc]; go_simp; (try with_reducible rfl))
  (try simp only [Act.put, xa, xb, xc, xd, xe, xf])
  refine wpAnyH_take (i := 4) (v := ?v217) rfl (by kernel_rfl) (by kernel_rfl) (by kernel_rfl) (fun _ _ _ h => leaves_tmps (results_put2 Tryz.results14 (by decide) (by decide) _ _) _ _ _ h) (Or.inl ⟨by rfl, ?hy217⟩) (by assumption) ?rest217
  case hy217 => (intro w hSw; (try dsimp only at hSw); simp only [xa, xb, xc]; go_simp; (try with_reducible rfl))
  (try simp only [Act.put, xa, xb, xc, xd, xe, xf])
  refine wpAnyH_take (i := 5) (v := ?v218) rfl (by kernel_rfl) (by kernel_rfl) (by kernel_rfl) (fun _ _ _ h => leaves_tmps (results_put2 Tryz.results14 (by decide) (by decide) _ _) _ _ _ h) (Or.inl ⟨by rfl, ?hy218⟩) (by assumption) ?rest218
  case hy218 => (intro w hSw; (try dsimp only at hSw); simp only [xa, xb, xc]; go_simp; (try with_reducible rfl))
  (try simp only [Act.put, xa, xb, xc, xd, xe, xf])
  refine wpAnyH_take (i := 6) (v := ?v219) rfl (by kernel_rfl) (by kernel_rfl) (by kernel_rfl) (fun _ _ _ h => leaves_tmps (results_put2 Tryz.results14 (by decide) (by decide) _ _) _ _ _ h) (Or.inl ⟨by rfl, ?hy219⟩) (by assumption) ?rest219
  case hy219 => (intro w hSw; (try dsimp only at hSw); simp only [xa, xb, xc]; go_simp; (try with_reducible rfl))
  (try simp only [Act.put, xa, xb, xc, xd, xe, xf])
  refine wpAnyH_take (i := 7) (v := ?v220) rfl (by kernel_rfl) (by kernel_rfl) (by kernel_rfl) (fun _ _ _ h => leaves_tmps (results_put2 Tryz.results14 (by decide) (by decide) _ _) _ _ _ h) (Or.inl ⟨by rfl, ?hy220⟩) (by assumption) ?rest220
  case hy220 => (intro w hSw; (try dsimp only at hSw); simp only [xa, xb, xc]; go_simp; (try with_reducible rfl))
  (try simp only [Act.put, xa, xb, xc, xd, xe, xf])
  refine wpAnyH_ready (rs := [8]) (by kernel_rfl) (by simp) ?_
  refine AllReadyH.cons rfl (fun KK hK => ?_) AllReadyH.nil
  simp only [xa, xb, xc]
  go_simp
  refine (peek_any (Hr.out.quiet (HO2.out.trans (HO5.out.trans hHeld.2.2))) (m + i)).mono ?_
  rintro e w6 ⟨rfl, he⟩
  rw [he]
  clear he w6
  refine hK.out _ _ ?hS221 (fun hHeld2 => ?rest221)
  case hS221 => exact hHeld
  clear hK KK
  (try clear hHeld)
  have hHeld := hHeld2
  clear hHeld2
  (try simp only [Act.put, xa, xb, xc, xd, xe, xf])
  refine wpAnyH_take (i := 9) (v := ?v222) rfl (by kernel_rfl) (by kernel_rfl) (by kernel_rfl) (fun _ _ _ h => leaves_tmps (results_put2 Tryz.results14 (by decide) (by decide) _ _) _ _ _ h) (Or.inl ⟨by rfl, ?hy222⟩) (by assumption) ?rest222
  case hy222 => (intro w hSw; (try dsimp only at hSw); simp only [xa, xb, xc]; go_simp; (try with_reducible rfl))
  (try simp only [Act.put, xa, xb, xc, xd, xe, xf])
  refine wpAnyH_take (i := 10) (v := ?v223) rfl (by kernel_rfl) (by kernel_rfl) (by kernel_rfl) (fun _ _ _ h => leaves_tmps (results_put2 Tryz.results14 (by decide) (by decide) _ _) _ _ _ h) (Or.inl ⟨by rfl, ?hy223⟩) (by assumption) ?rest223
  case hy223 => (intro w hSw; (try dsimp only at hSw); simp only [xa, xb, xc]; go_simp; (try with_reducible rfl))
  (try simp only [Act.put, xa, xb, xc, xd, xe, xf])
  refine wpAnyH_take (i := 11) (v := ?v224) rfl (by kernel_rfl) (by kernel_rfl) (by kernel_rfl) (fun _ _ _ h => leaves_tmps (results_put2 Tryz.results14 (by decide) (by decide) _ _) _ _ _ h) (Or.inl ⟨by rfl, ?hy224⟩) (by assumption) ?rest224
  case hy224 => (intro w hSw; (try dsimp only at hSw); simp only [xa, xb, xc]; go_simp; (try with_reducible rfl))
  (try simp only [Act.put, xa, xb, xc, xd, xe, xf])
  refine wpAnyH_take (i := 12) (v := ?v225) rfl (by kernel_rfl) (by kernel_rfl) (by kernel_rfl) (fun _ _ _ h => leaves_tmps (results_put2 Tryz.results14 (by decide) (by decide) _ _) _ _ _ h) (Or.inl ⟨by rfl, ?hy225⟩) (by assumption) ?rest225
  case hy225 => (intro w hSw; (try dsimp only at hSw); simp only [xa, xb, xc]; go_simp; (try with_reducible rfl))
  (try simp only [Act.put, xa, xb, xc, xd, xe, xf])
  refine wpAnyH_take (i := 13) (v := ?v226) rfl (by kernel_rfl) (by kernel_rfl) (by kernel_rfl) (fun _ _ _ h => leaves_tmps (results_put2 Tryz.results14 (by decide) (by decide) _ _) _ _ _ h) (Or.inl ⟨by rfl, ?hy226⟩) (by assumption) ?rest226
  case hy226 => (intro w hSw; (try dsimp only at hSw); simp only [xa, xb, xc]; go_simp; (try with_reducible rfl))
  (try simp only [Act.put, xa, xb, xc, xd, xe, xf])
  refine wpAnyH_done (by kernel_rfl) ?_ _
  have HO6 := hid_mk (HO5.out.trans hHeld.2.2)
  obtain ⟨X6, hX6⟩ : ∃ X, X5.drew = X := ⟨_, rfl⟩
  rw [hX6] at HO6 hHeld ⊢
  have HB6 := hid_mk (hHeld.2.2.heap HB5.out (.inr (Nat.zero_le _)))
  obtain ⟨z0', z1', z2', z3', z4', z5'⟩ := blk5 HB6.out
  clear hHeld hX6 x0 x1 x2 x3 x4 x5 y6
  generalize hpv : peekV n r.W (m + i) = pv at *
  have Hpv := hid_mk hpv
  clear hpv
  go_wp2_with fail
  refine (right_any (Hr.out.quiet (HO2.out.trans HO6.out)) (HO6.out.cell HH'.out (.inr (Nat.zero_le _))) m t1 t2 t3 t4 role pv).mono ?_
  rw [Hg.out]
  rintro e X7 ⟨rfl, q7⟩
  have HO7 := hid_mk (HO6.out.trans q7)
  clear q7 z0' z1' z2' z3' z4' z5'
  go_wp2_with fail
  refine (HRd.out _).mono ?_
  rintro e X8 ⟨rfl, q8⟩
  have HO8 := hid_mk (HO7.out.trans q8)
  have HR8 := hid_mk (HO8.out.heap fR.out (.inr (Nat.zero_le _)))
  have HF8 := hid_mk (HO8.out.heap fF.out (.inr (Nat.zero_le _)))
  obtain ⟨a0, a1, a2, a3⟩ := val_facts HR8.out
  obtain ⟨b0, b1, b2, b3⟩ := flt_facts HF8.out
  clear q8
  have e1 := val_set (x1 := pv % 8 + 1) (x2 := pv / 8) (val_set (x1 := pv % 8 + 1) (x2 := pv / 8) HR8.out)
  have o1 : Out (gv + 1) (gv + 2) X8 _ := ((Out.refl (gv + 1) (gv + 2) X8).set2 (b := gv + 1) (o := 0) (o' := 1) (.inl ⟨Nat.le_refl _, Nat.lt_succ_self _⟩) (.int .i64 (pv % 8 + 1)) (.int .i64 (pv / 8))).set2 (b := gv + 1) (o := 0) (o' := 1) (.inl ⟨Nat.le_refl _, Nat.lt_succ_self _⟩) (.int .i64 (pv % 8 + 1)) (.int .i64 (pv / 8))
  have f1 := o1.heap HF8.out (.inr (Nat.le_refl _))
  have f2 := flt_set (x' := 0) (y' := 0) f1
  have e2 := ((Out.refl (gv + 2) (gv + 3) _).set2 (b := gv + 2) (o := 0) (o' := 1) (.inl ⟨Nat.le_refl _, Nat.lt_succ_self _⟩) (.int .i64 0) (.int .i64 0)).heap e1 (.inl (Nat.lt_succ_self _))
  have P9 := (((HO2.out.trans HO8.out).set2 (b := gv + 1) (o := 0) (o' := 1) (.inr (by have := Hgv.out; omega)) (.int .i64 (pv % 8 + 1)) (.int .i64 (pv / 8))).set2 (b := gv + 1) (o := 0) (o' := 1) (.inr (by have := Hgv.out; omega)) (.int .i64 (pv % 8 + 1)) (.int .i64 (pv / 8))).set2 (b := gv + 2) (o := 0) (o' := 1) (.inr (by have := Hgv.out; omega)) (.int .i64 0) (.int .i64 0)
  have HL := hid_mk (And.intro e2 (And.intro f2 P9))
  clear e1 o1 f1 f2 e2 P9
  go_wp2
  refine leaves_cons (f := 33) (args := #[.pointer (some ⟨gv + 2, 0, none⟩)]) (by simp) (by simp [go_sem]) ?_
  refine (catchGet_idle HL.out.2.1).mono ?_
  rintro e u' w9 ⟨rfl, rfl, f9, q9⟩
  exact leaves_ret (results_two Tryz.results14 rfl rfl (load_val (q9.heap HL.out.1 (.inl (Nat.lt_succ_self _)))) (load_flt f9)) ⟨by rw [Hpv.out], HL.out.2.2.trans' q9 (by have := Hgv.out; omega)⟩
end
end Go.Proofs.YtcpignkjlnjjmaaGreatDoor
