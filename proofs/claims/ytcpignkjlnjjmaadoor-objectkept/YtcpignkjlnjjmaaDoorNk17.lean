import Derived.Test.YtcpignkjlnjjmaaDoorNk16
namespace Go.Proofs.YtcpignkjlnjjmaaDoor
open Go.RowKit
set_option linter.unusedVariables false
set_option linter.unusedSimpArgs false

theorem results_one {P : Program} {fn : Func} {p : Tmp} {a : TypeId} {t : Array Value} {w : World} {v1 : Value} {A1 : Addr} (hr : fn.results = #[.cell p a]) (hp : t.getD p undef = .pointer (some A1)) (r1 : (loadVar a A1).run P w = .ok v1 w) : (results fn t).run P w = .ok v1 w := by
  have hp' : t[p]?.getD undef = .pointer (some A1) := by simpa using hp
  simp only [results, hr]
  simp [Sem.run_bind, hp', asAddr, r1, Result.andThen]
theorem Out.then {lo hi : Nat} {a b c : World} {g h : Nat} (o : Out lo hi a b) (q : Out g h b c) (hg : a.heap.size ≤ g) : Out lo hi a c :=
  ⟨q.1.trans o.1, q.2.1.trans o.2.1, q.2.2.1.trans o.2.2.1, Nat.le_trans o.size q.size, fun k hk hn => (q.block (Nat.lt_of_lt_of_le hk o.size) (by omega)).trans (o.block hk hn)⟩
theorem word_yes {k n : Int} (hv : validB_v k n = true) (w : World) : Calls Tryd.prog 21 #[.agg #[.int .i64 k, .int .i64 n]] w fun e w' => e = .returned (.tuple #[.int .i64 (n * 8 + (k - 1)), .bool true]) ∧ Out 0 0 w w' := by
  refine (word_any_v k n w).mono ?_
  rintro e w' ⟨rfl, h⟩
  rw [hv]
  unfold wordV_v
  rw [if_pos hv]
  exact ⟨rfl, out_below h⟩
theorem word_no {k n : Int} (hv : validB_v k n = false) (w : World) : Calls Tryd.prog 21 #[.agg #[.int .i64 k, .int .i64 n]] w fun e w' => e = .returned (.tuple #[.int .i64 0, .bool false]) ∧ Out 0 0 w w' := by
  refine (word_any_v k n w).mono ?_
  rintro e w' ⟨rfl, h⟩
  rw [hv]
  unfold wordV_v
  rw [if_neg (by simp [hv])]
  exact ⟨rfl, out_below h⟩
section
variable {w : World} {lo hi hb : Nat} {s : Nat → Nat} {n cap : Nat} {r : Raw}
set_option maxRecDepth 100000 in
set_option maxHeartbeats 2000000 in
theorem Set_open (hr : RawAt w lo hi s n cap r) (hA : InArena n r) (hH : w.cell? ⟨hb, 0, none⟩ = some (.pointer (some ⟨s 14, 0, none⟩))) (k m i xk xn : Int) (hop : opE r k m ≠ 0) : Calls Tryd.prog 8 #[.pointer (some ⟨hb, 0, none⟩), .agg #[.int .i64 k, .int .i64 m], .int .i64 i, .agg #[.int .i64 xk, .int .i64 xn]] w fun e w' => e = .returned (.agg #[.int .i64 (opE r k m), .int .i64 (opA r k m)]) ∧ Out 0 0 w w' := by
  have hmf : ∀ (fn : Fn) (first cap : Array Value) (w : World), (Instr.makeFunc fn first cap).run Tryd.prog w = .ok (.func fn first cap) w := fun _ _ _ _ => rfl
  have fV := hid_mk (three_first (w := w) (o := .cells #[.int .i64 k, .int .i64 m] 31) (o2 := .cells #[.int .i64 xk, .int .i64 xn] 31) (o3 := .cells #[.int .i64 0, .int .i64 0] 34))
  have fX := hid_mk (three_second (w := w) (o := .cells #[.int .i64 k, .int .i64 m] 31) (o2 := .cells #[.int .i64 xk, .int .i64 xn] 31) (o3 := .cells #[.int .i64 0, .int .i64 0] 34))
  have fF := hid_mk (three_third (w := w) (o := .cells #[.int .i64 k, .int .i64 m] 31) (o2 := .cells #[.int .i64 xk, .int .i64 xn] 31) (o3 := .cells #[.int .i64 0, .int .i64 0] 34))
  have HO2 := hid_mk ((((Out.refl 0 0 w).alloc (.cells #[.int .i64 k, .int .i64 m] 31)).alloc (.cells #[.int .i64 xk, .int .i64 xn] 31)).alloc (.cells #[.int .i64 0, .int .i64 0] 34))
  have Hr := hid_mk hr
  have HA := hid_mk hA
  obtain ⟨gv, hgv⟩ : ∃ g, w.heap.size = g := ⟨_, rfl⟩
  have Hgv := hid_mk hgv
  obtain ⟨V2, hV2⟩ : ∃ V, ((w.alloc (.cells #[.int .i64 k, .int .i64 m] 31)).alloc (.cells #[.int .i64 xk, .int .i64 xn] 31)).alloc (.cells #[.int .i64 0, .int .i64 0] 34) = V := ⟨_, rfl⟩
  rw [hV2, hgv] at fV fX fF
  rw [hV2] at HO2
  have HH' := hid_mk (HO2.out.cell hH (.inr (Nat.zero_le _)))
  clear hH hr hA
  obtain ⟨u0, u1, u2, u3⟩ := val_facts fV.out
  have Hop := hid_mk hop
  clear hop
  have HOp : Hid (∀ V, Out 0 0 V2 V → Calls Tryd.prog 14 #[.pointer (some ⟨hb, 0, none⟩), .agg #[.int .i64 k, .int .i64 m]] V fun e w' => e = .panicked [stopP (opE r k m) (opA r k m)] ∧ Out 0 0 V w') := fun V o => open_no (Hr.out.quiet (HO2.out.trans o)) HA.out (o.cell HH'.out (.inr (Nat.zero_le _))) k m Hop.out
  go_enter_defers Tryd.func8, Tryd.ntmps8
  go_wp2_with fail
  (try rw [hV2])
  (try rw [hgv])
  clear hV2 hgv
  refine (oself_any _ _).mono ?_
  rintro e w5 ⟨rfl, he⟩
  rw [he]
  clear he w5
  go_wp2_with fail
  refine (HOp.out V2 (Out.refl 0 0 _)).mono ?_
  rintro e X3 ⟨rfl, q3⟩
  simp
  refine leaves_cons (f := 20) (args := #[.pointer (some ⟨gv + 2, 0, none⟩)]) (by simp) (by simp [go_sem]) ?_
  refine (catchSet_stop (q3.heap fF.out (.inr (Nat.zero_le _)))).mono ?_
  rintro e u' w9 ⟨rfl, rfl, f9, q9⟩
  exact leaves_ret (results_one Tryd.results8 rfl (load_flt f9)) ⟨rfl, (HO2.out.trans q3).trans' q9 (by have := Hgv.out; omega)⟩
set_option maxRecDepth 100000 in
set_option maxHeartbeats 2000000 in
theorem Set_field (hr : RawAt w lo hi s n cap r) (hA : InArena n r) (hH : w.cell? ⟨hb, 0, none⟩ = some (.pointer (some ⟨s 14, 0, none⟩))) (k m i xk xn : Int) {t1 t2 t3 t4 : Int} (hM : r.M m = some (t1, t2, t3, t4)) (hop : opE r k m = 0) (hf : fieldB (roleV t1 t2 i) = false) : Calls Tryd.prog 8 #[.pointer (some ⟨hb, 0, none⟩), .agg #[.int .i64 k, .int .i64 m], .int .i64 i, .agg #[.int .i64 xk, .int .i64 xn]] w fun e w' => e = .returned (.agg #[.int .i64 32, .int .i64 0]) ∧ Out 0 0 w w' := by
  have hmf : ∀ (fn : Fn) (first cap : Array Value) (w : World), (Instr.makeFunc fn first cap).run Tryd.prog w = .ok (.func fn first cap) w := fun _ _ _ _ => rfl
  have fV := hid_mk (three_first (w := w) (o := .cells #[.int .i64 k, .int .i64 m] 31) (o2 := .cells #[.int .i64 xk, .int .i64 xn] 31) (o3 := .cells #[.int .i64 0, .int .i64 0] 34))
  have fX := hid_mk (three_second (w := w) (o := .cells #[.int .i64 k, .int .i64 m] 31) (o2 := .cells #[.int .i64 xk, .int .i64 xn] 31) (o3 := .cells #[.int .i64 0, .int .i64 0] 34))
  have fF := hid_mk (three_third (w := w) (o := .cells #[.int .i64 k, .int .i64 m] 31) (o2 := .cells #[.int .i64 xk, .int .i64 xn] 31) (o3 := .cells #[.int .i64 0, .int .i64 0] 34))
  have HO2 := hid_mk ((((Out.refl 0 0 w).alloc (.cells #[.int .i64 k, .int .i64 m] 31)).alloc (.cells #[.int .i64 xk, .int .i64 xn] 31)).alloc (.cells #[.int .i64 0, .int .i64 0] 34))
  have Hr := hid_mk hr
  have HA := hid_mk hA
  obtain ⟨gv, hgv⟩ : ∃ g, w.heap.size = g := ⟨_, rfl⟩
  have Hgv := hid_mk hgv
  obtain ⟨V2, hV2⟩ : ∃ V, ((w.alloc (.cells #[.int .i64 k, .int .i64 m] 31)).alloc (.cells #[.int .i64 xk, .int .i64 xn] 31)).alloc (.cells #[.int .i64 0, .int .i64 0] 34) = V := ⟨_, rfl⟩
  rw [hV2, hgv] at fV fX fF
  rw [hV2] at HO2
  have HH' := hid_mk (HO2.out.cell hH (.inr (Nat.zero_le _)))
  clear hH hr hA
  obtain ⟨u0, u1, u2, u3⟩ := val_facts fV.out
  have Hop := hid_mk hop
  have HM := hid_mk hM
  have Hs : Hid (1 ≤ t2 ∧ t2 ≤ 1024 ∧ 0 ≤ m ∧ m + t2 ≤ 64 * n) := by have q := HA.out m _ hM; exact ⟨q.2.2.1, q.2.2.2, q.1, q.2.1⟩
  clear hop hM
  have Hf := hid_mk hf
  clear hf
  have HFd : Hid (∀ V, Out 0 0 V2 V → Calls Tryd.prog 15 #[.agg #[.int .i64 m, .int .i64 t1, .int .i64 t2, .int .i64 t3, .int .i64 t4], .int .i64 i] V fun e w' => e = .panicked [stopP 32 0] ∧ Out 0 0 V w') := fun V o => field_no m t1 t2 t3 t4 i ((Hr.out.quiet (HO2.out.trans o)).tab) (by have := Hs.out; omega) (by have := Hs.out; omega) Hf.out
  have HOp : Hid (∀ V, Out 0 0 V2 V → Calls Tryd.prog 14 #[.pointer (some ⟨hb, 0, none⟩), .agg #[.int .i64 k, .int .i64 m]] V fun e w' => e = .returned (.agg #[.int .i64 m, .int .i64 t1, .int .i64 t2, .int .i64 t3, .int .i64 t4]) ∧ Out 0 0 V w') := fun V o => by
    obtain ⟨a1, a2, a3, a4, h1, h2⟩ := open_yes (Hr.out.quiet (HO2.out.trans o)) HA.out (o.cell HH'.out (.inr (Nat.zero_le _))) k m Hop.out
    rw [HM.out] at h1
    simp only [Option.some.injEq, Prod.mk.injEq] at h1
    obtain ⟨rfl, rfl, rfl, rfl⟩ := h1
    exact h2
  go_enter_defers Tryd.func8, Tryd.ntmps8
  go_wp2_with fail
  (try rw [hV2])
  (try rw [hgv])
  clear hV2 hgv
  refine (oself_any _ _).mono ?_
  rintro e w5 ⟨rfl, he⟩
  rw [he]
  clear he w5
  go_wp2_with fail
  refine (HOp.out V2 (Out.refl 0 0 _)).mono ?_
  rintro e X3 ⟨rfl, q3⟩
  obtain ⟨gb, hgb⟩ : ∃ g, X3.heap.size = g := ⟨_, rfl⟩
  obtain ⟨V4, hV4⟩ : ∃ V, X3.alloc (.cells #[.int .i64 m, .int .i64 t1, .int .i64 t2, .int .i64 t3, .int .i64 t4] 49) = V := ⟨_, rfl⟩
  have fB : V4.heap[gb]? = some (.cells #[.int .i64 m, .int .i64 t1, .int .i64 t2, .int .i64 t3, .int .i64 t4] 49 (0, 0)) := by rw [← hV4, ← hgb]; exact heap_alloc_new _ _
  have O4 : Out 0 0 V2 V4 := by rw [← hV4]; exact q3.alloc _
  obtain ⟨y0, y1, y2, y3, y4, y5⟩ := blk5 fB
  have HB4 := hid_mk fB
  have HO4 := hid_mk O4
  clear fB O4 q3 u0 u1 u2 u3
  go_wp2_with fail
  (try rw [hV4])
  (try rw [hgb])
  clear hV4 hgb
  refine (HFd.out V4 HO4.out).mono ?_
  rintro e X5 ⟨rfl, q5⟩
  have O5 := HO4.out.trans q5
  clear q5
  simp
  refine leaves_cons (f := 20) (args := #[.pointer (some ⟨gv + 2, 0, none⟩)]) (by simp) (by simp [go_sem]) ?_
  refine (catchSet_stop (O5.heap fF.out (.inr (Nat.zero_le _)))).mono ?_
  rintro e u' w9 ⟨rfl, rfl, f9, q9⟩
  exact leaves_ret (results_one Tryd.results8 rfl (load_flt f9)) ⟨rfl, (HO2.out.trans O5).trans' q9 (by have := Hgv.out; omega)⟩
set_option maxRecDepth 100000 in
set_option maxHeartbeats 2000000 in
theorem Set_novalue (hr : RawAt w lo hi s n cap r) (hA : InArena n r) (hH : w.cell? ⟨hb, 0, none⟩ = some (.pointer (some ⟨s 14, 0, none⟩))) (k m i xk xn : Int) {t1 t2 t3 t4 : Int} (hM : r.M m = some (t1, t2, t3, t4)) (hop : opE r k m = 0) (hf : fieldB (roleV t1 t2 i) = true) (hx : validB_v xk xn = false) : Calls Tryd.prog 8 #[.pointer (some ⟨hb, 0, none⟩), .agg #[.int .i64 k, .int .i64 m], .int .i64 i, .agg #[.int .i64 xk, .int .i64 xn]] w fun e w' => e = .returned (.agg #[.int .i64 33, .int .i64 0]) ∧ Out 0 0 w w' := by
  have hmf : ∀ (fn : Fn) (first cap : Array Value) (w : World), (Instr.makeFunc fn first cap).run Tryd.prog w = .ok (.func fn first cap) w := fun _ _ _ _ => rfl
  have fV := hid_mk (three_first (w := w) (o := .cells #[.int .i64 k, .int .i64 m] 31) (o2 := .cells #[.int .i64 xk, .int .i64 xn] 31) (o3 := .cells #[.int .i64 0, .int .i64 0] 34))
  have fX := hid_mk (three_second (w := w) (o := .cells #[.int .i64 k, .int .i64 m] 31) (o2 := .cells #[.int .i64 xk, .int .i64 xn] 31) (o3 := .cells #[.int .i64 0, .int .i64 0] 34))
  have fF := hid_mk (three_third (w := w) (o := .cells #[.int .i64 k, .int .i64 m] 31) (o2 := .cells #[.int .i64 xk, .int .i64 xn] 31) (o3 := .cells #[.int .i64 0, .int .i64 0] 34))
  have HO2 := hid_mk ((((Out.refl 0 0 w).alloc (.cells #[.int .i64 k, .int .i64 m] 31)).alloc (.cells #[.int .i64 xk, .int .i64 xn] 31)).alloc (.cells #[.int .i64 0, .int .i64 0] 34))
  have Hr := hid_mk hr
  have HA := hid_mk hA
  obtain ⟨gv, hgv⟩ : ∃ g, w.heap.size = g := ⟨_, rfl⟩
  have Hgv := hid_mk hgv
  obtain ⟨V2, hV2⟩ : ∃ V, ((w.alloc (.cells #[.int .i64 k, .int .i64 m] 31)).alloc (.cells #[.int .i64 xk, .int .i64 xn] 31)).alloc (.cells #[.int .i64 0, .int .i64 0] 34) = V := ⟨_, rfl⟩
  rw [hV2, hgv] at fV fX fF
  rw [hV2] at HO2
  have HH' := hid_mk (HO2.out.cell hH (.inr (Nat.zero_le _)))
  clear hH hr hA
  obtain ⟨u0, u1, u2, u3⟩ := val_facts fV.out
  have Hop := hid_mk hop
  have HM := hid_mk hM
  have Hs : Hid (1 ≤ t2 ∧ t2 ≤ 1024 ∧ 0 ≤ m ∧ m + t2 ≤ 64 * n) := by have q := HA.out m _ hM; exact ⟨q.2.2.1, q.2.2.2, q.1, q.2.1⟩
  clear hop hM
  have Hf := hid_mk hf
  have HWd := hid_mk (fun V => word_no hx V)
  clear hf hx
  have HFd : Hid (∀ V, Out 0 0 V2 V → Calls Tryd.prog 15 #[.agg #[.int .i64 m, .int .i64 t1, .int .i64 t2, .int .i64 t3, .int .i64 t4], .int .i64 i] V fun e w' => e = .returned (.int .i64 (roleV t1 t2 i)) ∧ Out 0 0 V w') := fun V o => field_yes m t1 t2 t3 t4 i ((Hr.out.quiet (HO2.out.trans o)).tab) (by have := Hs.out; omega) (by have := Hs.out; omega) Hf.out
  have HOp : Hid (∀ V, Out 0 0 V2 V → Calls Tryd.prog 14 #[.pointer (some ⟨hb, 0, none⟩), .agg #[.int .i64 k, .int .i64 m]] V fun e w' => e = .returned (.agg #[.int .i64 m, .int .i64 t1, .int .i64 t2, .int .i64 t3, .int .i64 t4]) ∧ Out 0 0 V w') := fun V o => by
    obtain ⟨a1, a2, a3, a4, h1, h2⟩ := open_yes (Hr.out.quiet (HO2.out.trans o)) HA.out (o.cell HH'.out (.inr (Nat.zero_le _))) k m Hop.out
    rw [HM.out] at h1
    simp only [Option.some.injEq, Prod.mk.injEq] at h1
    obtain ⟨rfl, rfl, rfl, rfl⟩ := h1
    exact h2
  go_enter_defers Tryd.func8, Tryd.ntmps8
  go_wp2_with fail
  (try rw [hV2])
  (try rw [hgv])
  clear hV2 hgv
  refine (oself_any _ _).mono ?_
  rintro e w5 ⟨rfl, he⟩
  rw [he]
  clear he w5
  go_wp2_with fail
  refine (HOp.out V2 (Out.refl 0 0 _)).mono ?_
  rintro e X3 ⟨rfl, q3⟩
  obtain ⟨gb, hgb⟩ : ∃ g, X3.heap.size = g := ⟨_, rfl⟩
  obtain ⟨V4, hV4⟩ : ∃ V, X3.alloc (.cells #[.int .i64 m, .int .i64 t1, .int .i64 t2, .int .i64 t3, .int .i64 t4] 49) = V := ⟨_, rfl⟩
  have fB : V4.heap[gb]? = some (.cells #[.int .i64 m, .int .i64 t1, .int .i64 t2, .int .i64 t3, .int .i64 t4] 49 (0, 0)) := by rw [← hV4, ← hgb]; exact heap_alloc_new _ _
  have O4 : Out 0 0 V2 V4 := by rw [← hV4]; exact q3.alloc _
  obtain ⟨y0, y1, y2, y3, y4, y5⟩ := blk5 fB
  have HB4 := hid_mk fB
  have HO4 := hid_mk O4
  clear fB O4 q3 u0 u1 u2 u3
  go_wp2_with fail
  (try rw [hV4])
  (try rw [hgb])
  clear hV4 hgb
  refine (HFd.out V4 HO4.out).mono ?_
  rintro e X5 ⟨rfl, q5⟩
  obtain ⟨x0, x1, x2, x3⟩ := val_facts ((HO4.out.trans q5).heap fX.out (.inr (Nat.zero_le _)))
  have HO5 := hid_mk (HO4.out.trans q5)
  have HB5 := hid_mk (q5.heap HB4.out (.inr (Nat.zero_le _)))
  clear q5 y0 y1 y2 y3 y4 y5
  generalize roleV t1 t2 i = role at *
  go_wp2_with fail
  refine (HWd.out _).mono ?_
  rintro e X6 ⟨rfl, q6⟩
  have HO6 := hid_mk (HO5.out.trans q6)
  have HB6 := hid_mk (q6.heap HB5.out (.inr (Nat.zero_le _)))
  clear q6 x0 x1 x2 x3
  go_wp2_with fail
  refine (want_no _ _).mono ?_
  rintro e X7 ⟨rfl, he⟩
  rw [he]
  clear he X7
  simp
  refine leaves_cons (f := 20) (args := #[.pointer (some ⟨gv + 2, 0, none⟩)]) (by simp) (by simp [go_sem]) ?_
  refine (catchSet_stop (HO6.out.heap fF.out (.inr (Nat.zero_le _)))).mono ?_
  rintro e u' w9 ⟨rfl, rfl, f9, q9⟩
  exact leaves_ret (results_one Tryd.results8 rfl (load_flt f9)) ⟨rfl, (HO2.out.trans HO6.out).trans' q9 (by have := Hgv.out; omega)⟩
set_option maxRecDepth 100000 in
set_option maxHeartbeats 2000000 in
theorem Set_wrong (hr : RawAt w lo hi s n cap r) (hA : InArena n r) (hH : w.cell? ⟨hb, 0, none⟩ = some (.pointer (some ⟨s 14, 0, none⟩))) (k m i xk xn : Int) {t1 t2 t3 t4 : Int} (hM : r.M m = some (t1, t2, t3, t4)) (hop : opE r k m = 0) (hf : fieldB (roleV t1 t2 i) = true) (hx : validB_v xk xn = true) (hg : rgB r m (t1, t2, t3, t4) (roleV t1 t2 i) (xn * 8 + (xk - 1)) = false) : Calls Tryd.prog 8 #[.pointer (some ⟨hb, 0, none⟩), .agg #[.int .i64 k, .int .i64 m], .int .i64 i, .agg #[.int .i64 xk, .int .i64 xn]] w fun e w' => e = .returned (.agg #[.int .i64 33, .int .i64 0]) ∧ Out 0 0 w w' := by
  have hmf : ∀ (fn : Fn) (first cap : Array Value) (w : World), (Instr.makeFunc fn first cap).run Tryd.prog w = .ok (.func fn first cap) w := fun _ _ _ _ => rfl
  have fV := hid_mk (three_first (w := w) (o := .cells #[.int .i64 k, .int .i64 m] 31) (o2 := .cells #[.int .i64 xk, .int .i64 xn] 31) (o3 := .cells #[.int .i64 0, .int .i64 0] 34))
  have fX := hid_mk (three_second (w := w) (o := .cells #[.int .i64 k, .int .i64 m] 31) (o2 := .cells #[.int .i64 xk, .int .i64 xn] 31) (o3 := .cells #[.int .i64 0, .int .i64 0] 34))
  have fF := hid_mk (three_third (w := w) (o := .cells #[.int .i64 k, .int .i64 m] 31) (o2 := .cells #[.int .i64 xk, .int .i64 xn] 31) (o3 := .cells #[.int .i64 0, .int .i64 0] 34))
  have HO2 := hid_mk ((((Out.refl 0 0 w).alloc (.cells #[.int .i64 k, .int .i64 m] 31)).alloc (.cells #[.int .i64 xk, .int .i64 xn] 31)).alloc (.cells #[.int .i64 0, .int .i64 0] 34))
  have Hr := hid_mk hr
  have HA := hid_mk hA
  obtain ⟨gv, hgv⟩ : ∃ g, w.heap.size = g := ⟨_, rfl⟩
  have Hgv := hid_mk hgv
  obtain ⟨V2, hV2⟩ : ∃ V, ((w.alloc (.cells #[.int .i64 k, .int .i64 m] 31)).alloc (.cells #[.int .i64 xk, .int .i64 xn] 31)).alloc (.cells #[.int .i64 0, .int .i64 0] 34) = V := ⟨_, rfl⟩
  rw [hV2, hgv] at fV fX fF
  rw [hV2] at HO2
  have HH' := hid_mk (HO2.out.cell hH (.inr (Nat.zero_le _)))
  clear hH hr hA
  obtain ⟨u0, u1, u2, u3⟩ := val_facts fV.out
  have Hop := hid_mk hop
  have HM := hid_mk hM
  have Hs : Hid (1 ≤ t2 ∧ t2 ≤ 1024 ∧ 0 ≤ m ∧ m + t2 ≤ 64 * n) := by have q := HA.out m _ hM; exact ⟨q.2.2.1, q.2.2.2, q.1, q.2.1⟩
  clear hop hM
  have Hf := hid_mk hf
  have HWd := hid_mk (fun V => word_yes hx V)
  have Hg := hid_mk hg
  clear hg
  clear hf hx
  have HFd : Hid (∀ V, Out 0 0 V2 V → Calls Tryd.prog 15 #[.agg #[.int .i64 m, .int .i64 t1, .int .i64 t2, .int .i64 t3, .int .i64 t4], .int .i64 i] V fun e w' => e = .returned (.int .i64 (roleV t1 t2 i)) ∧ Out 0 0 V w') := fun V o => field_yes m t1 t2 t3 t4 i ((Hr.out.quiet (HO2.out.trans o)).tab) (by have := Hs.out; omega) (by have := Hs.out; omega) Hf.out
  have HOp : Hid (∀ V, Out 0 0 V2 V → Calls Tryd.prog 14 #[.pointer (some ⟨hb, 0, none⟩), .agg #[.int .i64 k, .int .i64 m]] V fun e w' => e = .returned (.agg #[.int .i64 m, .int .i64 t1, .int .i64 t2, .int .i64 t3, .int .i64 t4]) ∧ Out 0 0 V w') := fun V o => by
    obtain ⟨a1, a2, a3, a4, h1, h2⟩ := open_yes (Hr.out.quiet (HO2.out.trans o)) HA.out (o.cell HH'.out (.inr (Nat.zero_le _))) k m Hop.out
    rw [HM.out] at h1
    simp only [Option.some.injEq, Prod.mk.injEq] at h1
    obtain ⟨rfl, rfl, rfl, rfl⟩ := h1
    exact h2
  go_enter_defers Tryd.func8, Tryd.ntmps8
  go_wp2_with fail
  (try rw [hV2])
  (try rw [hgv])
  clear hV2 hgv
  refine (oself_any _ _).mono ?_
  rintro e w5 ⟨rfl, he⟩
  rw [he]
  clear he w5
  go_wp2_with fail
  refine (HOp.out V2 (Out.refl 0 0 _)).mono ?_
  rintro e X3 ⟨rfl, q3⟩
  obtain ⟨gb, hgb⟩ : ∃ g, X3.heap.size = g := ⟨_, rfl⟩
  obtain ⟨V4, hV4⟩ : ∃ V, X3.alloc (.cells #[.int .i64 m, .int .i64 t1, .int .i64 t2, .int .i64 t3, .int .i64 t4] 49) = V := ⟨_, rfl⟩
  have fB : V4.heap[gb]? = some (.cells #[.int .i64 m, .int .i64 t1, .int .i64 t2, .int .i64 t3, .int .i64 t4] 49 (0, 0)) := by rw [← hV4, ← hgb]; exact heap_alloc_new _ _
  have O4 : Out 0 0 V2 V4 := by rw [← hV4]; exact q3.alloc _
  obtain ⟨y0, y1, y2, y3, y4, y5⟩ := blk5 fB
  have HB4 := hid_mk fB
  have HO4 := hid_mk O4
  clear fB O4 q3 u0 u1 u2 u3
  go_wp2_with fail
  (try rw [hV4])
  (try rw [hgb])
  clear hV4 hgb
  refine (HFd.out V4 HO4.out).mono ?_
  rintro e X5 ⟨rfl, q5⟩
  obtain ⟨x0, x1, x2, x3⟩ := val_facts ((HO4.out.trans q5).heap fX.out (.inr (Nat.zero_le _)))
  have HO5 := hid_mk (HO4.out.trans q5)
  have HB5 := hid_mk (q5.heap HB4.out (.inr (Nat.zero_le _)))
  clear q5 y0 y1 y2 y3 y4 y5
  generalize roleV t1 t2 i = role at *
  go_wp2_with fail
  refine (HWd.out _).mono ?_
  rintro e X6 ⟨rfl, q6⟩
  have HO6 := hid_mk (HO5.out.trans q6)
  have HB6 := hid_mk (q6.heap HB5.out (.inr (Nat.zero_le _)))
  clear q6 x0 x1 x2 x3
  obtain ⟨pv, hpv⟩ : ∃ v, xn * 8 + (xk - 1) = v := ⟨_, rfl⟩
  have Hpv := hid_mk hpv
  rw [hpv] at Hg ⊢
  clear hpv
  obtain ⟨z0', z1', z2', z3', z4', z5'⟩ := blk5 HB6.out
  go_wp2_with fail
  refine (right_any (Hr.out.quiet (HO2.out.trans HO6.out)) (HO6.out.cell HH'.out (.inr (Nat.zero_le _))) m t1 t2 t3 t4 role pv).mono ?_
  rw [Hg.out]
  rintro e X7 ⟨rfl, q7⟩
  have HO7 := hid_mk (HO6.out.trans q7)
  have HB7 := hid_mk (q7.heap HB6.out (.inr (Nat.zero_le _)))
  clear q7 z0' z1' z2' z3' z4' z5'
  go_wp2_with fail
  refine (want_no _ _).mono ?_
  rintro e X8 ⟨rfl, he⟩
  rw [he]
  clear he X8
  simp
  refine leaves_cons (f := 20) (args := #[.pointer (some ⟨gv + 2, 0, none⟩)]) (by simp) (by simp [go_sem]) ?_
  refine (catchSet_stop (HO7.out.heap fF.out (.inr (Nat.zero_le _)))).mono ?_
  rintro e u' w9 ⟨rfl, rfl, f9, q9⟩
  exact leaves_ret (results_one Tryd.results8 rfl (load_flt f9)) ⟨rfl, (HO2.out.trans HO7.out).trans' q9 (by have := Hgv.out; omega)⟩
set_option maxRecDepth 100000 in
set_option maxHeartbeats 2000000 in
theorem Set_yes (hr : RawAt w lo hi s n cap r) (hA : InArena n r) (hH : w.cell? ⟨hb, 0, none⟩ = some (.pointer (some ⟨s 14, 0, none⟩))) (k m i xk xn : Int) {t1 t2 t3 t4 : Int} (hM : r.M m = some (t1, t2, t3, t4)) (hop : opE r k m = 0) (hf : fieldB (roleV t1 t2 i) = true) (hx : validB_v xk xn = true) (hg : rgB r m (t1, t2, t3, t4) (roleV t1 t2 i) (xn * 8 + (xk - 1)) = true) (hout : hb < lo ∨ hi ≤ hb) : Calls Tryd.prog 8 #[.pointer (some ⟨hb, 0, none⟩), .agg #[.int .i64 k, .int .i64 m], .int .i64 i, .agg #[.int .i64 xk, .int .i64 xn]] w fun e w' => e = .returned (.agg #[.int .i64 0, .int .i64 0]) ∧ RawAt w' lo hi s n cap { r with W := pokeW n r.W (m + i) (xn * 8 + (xk - 1)) } ∧ Out lo hi w w' := by
  have hmf : ∀ (fn : Fn) (first cap : Array Value) (w : World), (Instr.makeFunc fn first cap).run Tryd.prog w = .ok (.func fn first cap) w := fun _ _ _ _ => rfl
  have fV := hid_mk (three_first (w := w) (o := .cells #[.int .i64 k, .int .i64 m] 31) (o2 := .cells #[.int .i64 xk, .int .i64 xn] 31) (o3 := .cells #[.int .i64 0, .int .i64 0] 34))
  have fX := hid_mk (three_second (w := w) (o := .cells #[.int .i64 k, .int .i64 m] 31) (o2 := .cells #[.int .i64 xk, .int .i64 xn] 31) (o3 := .cells #[.int .i64 0, .int .i64 0] 34))
  have fF := hid_mk (three_third (w := w) (o := .cells #[.int .i64 k, .int .i64 m] 31) (o2 := .cells #[.int .i64 xk, .int .i64 xn] 31) (o3 := .cells #[.int .i64 0, .int .i64 0] 34))
  have HO2 := hid_mk ((((Out.refl 0 0 w).alloc (.cells #[.int .i64 k, .int .i64 m] 31)).alloc (.cells #[.int .i64 xk, .int .i64 xn] 31)).alloc (.cells #[.int .i64 0, .int .i64 0] 34))
  have Hr := hid_mk hr
  have HA := hid_mk hA
  obtain ⟨gv, hgv⟩ : ∃ g, w.heap.size = g := ⟨_, rfl⟩
  have Hgv := hid_mk hgv
  obtain ⟨V2, hV2⟩ : ∃ V, ((w.alloc (.cells #[.int .i64 k, .int .i64 m] 31)).alloc (.cells #[.int .i64 xk, .int .i64 xn] 31)).alloc (.cells #[.int .i64 0, .int .i64 0] 34) = V := ⟨_, rfl⟩
  rw [hV2, hgv] at fV fX fF
  rw [hV2] at HO2
  have HH' := hid_mk (HO2.out.cell hH (.inr (Nat.zero_le _)))
  clear hH hr hA
  obtain ⟨u0, u1, u2, u3⟩ := val_facts fV.out
  have Hop := hid_mk hop
  have HM := hid_mk hM
  have Hs : Hid (1 ≤ t2 ∧ t2 ≤ 1024 ∧ 0 ≤ m ∧ m + t2 ≤ 64 * n) := by have q := HA.out m _ hM; exact ⟨q.2.2.1, q.2.2.2, q.1, q.2.1⟩
  clear hop hM
  have Hf := hid_mk hf
  have HWd := hid_mk (fun V => word_yes hx V)
  have Hg := hid_mk hg
  clear hg
  have hwr : IntKind.i64.wrap (m + i) = m + i := by have h1 := role_in hf; have h2 := Hs.out; have h3 := Hr.out.n2; rw [IntKind.wrap_i64]; omega
  have Hout := hid_mk hout
  clear hout
  clear hf hx
  have HFd : Hid (∀ V, Out 0 0 V2 V → Calls Tryd.prog 15 #[.agg #[.int .i64 m, .int .i64 t1, .int .i64 t2, .int .i64 t3, .int .i64 t4], .int .i64 i] V fun e w' => e = .returned (.int .i64 (roleV t1 t2 i)) ∧ Out 0 0 V w') := fun V o => field_yes m t1 t2 t3 t4 i ((Hr.out.quiet (HO2.out.trans o)).tab) (by have := Hs.out; omega) (by have := Hs.out; omega) Hf.out
  have HOp : Hid (∀ V, Out 0 0 V2 V → Calls Tryd.prog 14 #[.pointer (some ⟨hb, 0, none⟩), .agg #[.int .i64 k, .int .i64 m]] V fun e w' => e = .returned (.agg #[.int .i64 m, .int .i64 t1, .int .i64 t2, .int .i64 t3, .int .i64 t4]) ∧ Out 0 0 V w') := fun V o => by
    obtain ⟨a1, a2, a3, a4, h1, h2⟩ := open_yes (Hr.out.quiet (HO2.out.trans o)) HA.out (o.cell HH'.out (.inr (Nat.zero_le _))) k m Hop.out
    rw [HM.out] at h1
    simp only [Option.some.injEq, Prod.mk.injEq] at h1
    obtain ⟨rfl, rfl, rfl, rfl⟩ := h1
    exact h2
  go_enter_defers Tryd.func8, Tryd.ntmps8
  go_wp2_with fail
  (try rw [hV2])
  (try rw [hgv])
  clear hV2 hgv
  refine (oself_any _ _).mono ?_
  rintro e w5 ⟨rfl, he⟩
  rw [he]
  clear he w5
  go_wp2_with fail
  refine (HOp.out V2 (Out.refl 0 0 _)).mono ?_
  rintro e X3 ⟨rfl, q3⟩
  obtain ⟨gb, hgb⟩ : ∃ g, X3.heap.size = g := ⟨_, rfl⟩
  obtain ⟨V4, hV4⟩ : ∃ V, X3.alloc (.cells #[.int .i64 m, .int .i64 t1, .int .i64 t2, .int .i64 t3, .int .i64 t4] 49) = V := ⟨_, rfl⟩
  have fB : V4.heap[gb]? = some (.cells #[.int .i64 m, .int .i64 t1, .int .i64 t2, .int .i64 t3, .int .i64 t4] 49 (0, 0)) := by rw [← hV4, ← hgb]; exact heap_alloc_new _ _
  have HgbO : Hid (w.heap.size ≤ gb) := by rw [← hgb]; exact (HO2.out.trans q3).size
  have O4 : Out 0 0 V2 V4 := by rw [← hV4]; exact q3.alloc _
  obtain ⟨y0, y1, y2, y3, y4, y5⟩ := blk5 fB
  have HB4 := hid_mk fB
  have HO4 := hid_mk O4
  clear fB O4 q3 u0 u1 u2 u3
  go_wp2_with fail
  (try rw [hV4])
  (try rw [hgb])
  clear hV4 hgb
  refine (HFd.out V4 HO4.out).mono ?_
  rintro e X5 ⟨rfl, q5⟩
  obtain ⟨x0, x1, x2, x3⟩ := val_facts ((HO4.out.trans q5).heap fX.out (.inr (Nat.zero_le _)))
  have HO5 := hid_mk (HO4.out.trans q5)
  have HB5 := hid_mk (q5.heap HB4.out (.inr (Nat.zero_le _)))
  clear q5 y0 y1 y2 y3 y4 y5
  generalize roleV t1 t2 i = role at *
  go_wp2_with fail
  refine (HWd.out _).mono ?_
  rintro e X6 ⟨rfl, q6⟩
  have HO6 := hid_mk (HO5.out.trans q6)
  have HB6 := hid_mk (q6.heap HB5.out (.inr (Nat.zero_le _)))
  clear q6 x0 x1 x2 x3
  obtain ⟨pv, hpv⟩ : ∃ v, xn * 8 + (xk - 1) = v := ⟨_, rfl⟩
  have Hpv := hid_mk hpv
  rw [hpv] at Hg ⊢
  clear hpv
  obtain ⟨z0', z1', z2', z3', z4', z5'⟩ := blk5 HB6.out
  go_wp2_with fail
  refine (right_any (Hr.out.quiet (HO2.out.trans HO6.out)) (HO6.out.cell HH'.out (.inr (Nat.zero_le _))) m t1 t2 t3 t4 role pv).mono ?_
  rw [Hg.out]
  rintro e X7 ⟨rfl, q7⟩
  have HO7 := hid_mk (HO6.out.trans q7)
  have HB7 := hid_mk (q7.heap HB6.out (.inr (Nat.zero_le _)))
  clear q7 z0' z1' z2' z3' z4' z5'
  go_wp2_with fail
  refine (want_yes _ _).mono ?_
  rintro e X8 ⟨rfl, he⟩
  rw [he]
  clear he X8
  go_wp2_with fail
  obtain ⟨z0', z1', z2', z3', z4', z5'⟩ := blk5 HB7.out
  have y6 := HO7.out.cell HH'.out (.inr (Nat.zero_le _))
  have Hgb : Hid (w.heap.size ≤ gb) := HgbO.out
  refine wp_region_held_drew (S := fun w' => w'.cell? ⟨hb, 0, none⟩ = some (.pointer (some ⟨s 14, 0, none⟩)) ∧ w'.cell? ⟨gb, 0, none⟩ = some (.int .i64 m)) (by kernel_rfl) ?hS227 (fun hHeld => ?rest227)
  case hS227 => exact ⟨y6, z0'⟩
  obtain ⟨Z0, hZ⟩ : ∃ Z, X7.drew = Z := ⟨_, rfl⟩
  have O : Out 0 0 V2 Z0 := by rw [← hZ]; exact HO7.out.drew
  rw [hZ] at hHeld ⊢
  clear hZ
  refine wpAnyH_take (i := 0) (v := ?v228) rfl (by kernel_rfl) (by kernel_rfl) (by kernel_rfl) (fun _ _ _ h => leaves_tmps (results_put1 Tryd.results8 (by decide) _ _) _ _ _ h) (Or.inl ⟨by rfl, ?hy228⟩) (by assumption) ?rest228
  case hy228 => (intro w hSw; (try dsimp only at hSw); simp only [xa, xb, xc]; go_simp; (try with_reducible rfl))
  (try simp only [Act.put, xa, xb, xc, xd, xe, xf])
  refine wpAnyH_take (i := 1) (v := ?v229) rfl (by kernel_rfl) (by kernel_rfl) (by kernel_rfl) (fun _ _ _ h => leaves_tmps (results_put1 Tryd.results8 (by decide) _ _) _ _ _ h) (Or.inl ⟨by rfl, ?hy229⟩) (by assumption) ?rest229
  case hy229 => (intro w hSw; (try dsimp only at hSw); simp only [xa, xb, xc]; go_simp; (try with_reducible rfl))
  (try simp only [Act.put, xa, xb, xc, xd, xe, xf])
  refine wpAnyH_take (i := 2) (v := ?v230) rfl (by kernel_rfl) (by kernel_rfl) (by kernel_rfl) (fun _ _ _ h => leaves_tmps (results_put1 Tryd.results8 (by decide) _ _) _ _ _ h) (Or.inl ⟨by rfl, ?hy230⟩) (by assumption) ?rest230
  case hy230 => (intro w hSw; (try dsimp only at hSw); simp only [xa, xb, xc]; go_simp; (try with_reducible rfl))
  (try simp only [Act.put, xa, xb, xc, xd, xe, xf])
  refine wpAnyH_take (i := 3) (v := ?v231) rfl (by kernel_rfl) (by kernel_rfl) (by kernel_rfl) (fun _ _ _ h => leaves_tmps (results_put1 Tryd.results8 (by decide) _ _) _ _ _ h) (Or.inl ⟨by rfl, ?hy231⟩) (by assumption) ?rest231
  case hy231 => (intro w hSw; (try dsimp only at hSw); simp only [xa, xb, xc]; go_simp; (try with_reducible rfl))
  (try simp only [Act.put, xa, xb, xc, xd, xe, xf])
  refine wpAnyH_take (i := 4) (v := ?v232) rfl (by kernel_rfl) (by kernel_rfl) (by kernel_rfl) (fun _ _ _ h => leaves_tmps (results_put1 Tryd.results8 (by decide) _ _) _ _ _ h) (Or.inl ⟨by rfl, ?hy232⟩) (by assumption) ?rest232
  case hy232 => (intro w hSw; (try dsimp only at hSw); simp only [xa, xb, xc]; go_simp; (try with_reducible rfl))
  (try simp only [Act.put, xa, xb, xc, xd, xe, xf])
  refine wpAnyH_take (i := 5) (v := ?v233) rfl (by kernel_rfl) (by kernel_rfl) (by kernel_rfl) (fun _ _ _ h => leaves_tmps (results_put1 Tryd.results8 (by decide) _ _) _ _ _ h) (Or.inl ⟨by rfl, ?hy233⟩) (by assumption) ?rest233
  case hy233 => (intro w hSw; (try dsimp only at hSw); simp only [xa, xb, xc]; go_simp; (try with_reducible rfl))
  (try simp only [Act.put, xa, xb, xc, xd, xe, xf])
  refine wpAnyH_take (i := 6) (v := ?v234) rfl (by kernel_rfl) (by kernel_rfl) (by kernel_rfl) (fun _ _ _ h => leaves_tmps (results_put1 Tryd.results8 (by decide) _ _) _ _ _ h) (Or.inl ⟨by rfl, ?hy234⟩) (by assumption) ?rest234
  case hy234 => (intro w hSw; (try dsimp only at hSw); simp only [xa, xb, xc]; go_simp; (try with_reducible rfl))
  (try simp only [Act.put, xa, xb, xc, xd, xe, xf])
  refine wpAnyH_take (i := 7) (v := ?v235) rfl (by kernel_rfl) (by kernel_rfl) (by kernel_rfl) (fun _ _ _ h => leaves_tmps (results_put1 Tryd.results8 (by decide) _ _) _ _ _ h) (Or.inl ⟨by rfl, ?hy235⟩) (by assumption) ?rest235
  case hy235 => (intro w hSw; (try dsimp only at hSw); simp only [xa, xb, xc]; go_simp; (try with_reducible rfl))
  (try simp only [Act.put, xa, xb, xc, xd, xe, xf])
  refine wpAnyH_take (i := 8) (v := ?v236) rfl (by kernel_rfl) (by kernel_rfl) (by kernel_rfl) (fun _ _ _ h => leaves_tmps (results_put1 Tryd.results8 (by decide) _ _) _ _ _ h) (Or.inl ⟨by rfl, ?hy236⟩) (by assumption) ?rest236
  case hy236 => (intro w hSw; (try dsimp only at hSw); simp only [xa, xb, xc]; go_simp; (try with_reducible rfl))
  (try simp only [Act.put, xa, xb, xc, xd, xe, xf])
  refine wpAnyH_ready (rs := [9]) (by kernel_rfl) (by simp) ?_
  refine AllReadyH.cons rfl (fun KK hK => ?_) AllReadyH.nil
  simp only [xa, xb, xc]
  go_simp
  refine (poke_any (Hr.out.quiet (HO2.out.trans O)) (m + i) pv).mono ?_
  rintro e X9 ⟨rfl, P9, q9⟩
  refine hK.out _ _ ?hS237 (fun hHeld2 => ?rest237)
  case hS237 => exact ⟨q9.cell hHeld.1 (by have h1 := Hout.out; omega), q9.cell hHeld.2 (.inr (by have h1 := Hr.out.top; have h2 := Hgb.out; omega))⟩
  clear hK KK
  (try clear hHeld)
  have hHeld := hHeld2
  clear hHeld2
  (try simp only [Act.put, xa, xb, xc, xd, xe, xf])
  refine wpAnyH_done (by kernel_rfl) ?_ _
  have HP9 := hid_mk P9
  have HQ9 := hid_mk (((HO2.out.trans O).any lo hi).trans q9)
  have HF9 := hid_mk (q9.heap (O.heap fF.out (.inr (Nat.zero_le _))) (.inr (by have h1 := Hr.out.top; have h2 := Hgv.out; omega)))
  obtain ⟨b0, b1, b2, b3⟩ := flt_facts HF9.out
  clear hHeld P9 q9 O y6 z0' z1' z2' z3' z4' z5'
  go_wp2
  have o10 := (Out.refl (gv + 2) (gv + 3) X9).set2 (b := gv + 2) (o := 0) (o' := 1) (.inl ⟨Nat.le_refl _, Nat.lt_succ_self _⟩) (.int .i64 0) (.int .i64 0)
  refine leaves_cons (f := 20) (args := #[.pointer (some ⟨gv + 2, 0, none⟩)]) (by simp) (by simp [go_sem]) ?_
  refine (catchSet_idle (flt_set (x' := 0) (y' := 0) HF9.out)).mono ?_
  rintro e u' w9 ⟨rfl, rfl, f9, q9⟩
  have hd : hi ≤ gv + 2 := by have h1 := Hr.out.top; have h2 := Hgv.out; omega
  have hn : 4 ≤ gv + 2 := by have h1 := Hr.out.top; have h2 := Hgv.out; have h3 := Hr.out.glob; have h4 := Hr.out.inn 0 (by omega); omega
  exact leaves_ret (results_one Tryd.results8 rfl (load_flt f9)) ⟨rfl, by rw [Hpv.out]; exact (HP9.out.kept o10 (.inl hd) (.inl hn)).kept q9 (.inl hd) (.inl hn), (HQ9.out.then o10 (by have := Hgv.out; omega)).then q9 (by have := Hgv.out; omega)⟩
end
end Go.Proofs.YtcpignkjlnjjmaaDoor
