import Derived.Test.YtapjfokkcgdhhaaDoorQaj
namespace Go.Proofs.YtapjfokkcgdhhaaDoor
open Go.RowKit
set_option linter.unusedVariables false
set_option linter.unusedSimpArgs false

/-- a program that was read lies at gt and gf, behind lo -/
def PrAt (w : World) (lo gt gf : Nat) (ts : List (List Int)) (fs : List (Int × Int × Int × List (Int × Int))) : Prop := lo ≤ gt ∧ gt < gf ∧ TR w gt gf ts.length ts ∧ FR w gf w.heap.size fs.length fs
theorem PrAt.kept {w w' : World} {lo gt gf a b : Nat} {ts : List (List Int)} {fs : List (Int × Int × Int × List (Int × Int))} (h : PrAt w lo gt gf ts fs) (o : Out a b w w') (hb : b ≤ lo) : PrAt w' lo gt gf ts fs :=
  ⟨h.1, h.2.1, h.2.2.1.kept o (.inl (by have := h.1; omega)) h.2.1, (h.2.2.2.kept o (.inl (by have := h.1; have := h.2.1; omega)) h.2.2.2.lt).up o.size⟩
def WhQ (w : World) (r B : Nat) (ba : Option Addr) (n cap : Nat) (bs : List Int) (e : Ending) (w' : World) : Prop := Out r (r + 1) w w' ∧ ((∃ x ts fs gt gf, wholeR bs = .inr (x, ts, fs) ∧ PrAt w' w.heap.size gt gf ts fs ∧ e = .returned (.agg #[.int .i64 x, .slice (some ⟨gt, 0, none⟩) ts.length ts.length, .slice (some ⟨gf, 0, none⟩) fs.length fs.length])) ∨ ∃ x q, wholeR bs = .inl (x, q) ∧ e = .panicked [stopP x (q : Int)])
theorem WhQ.err {w w' : World} {r B n cap q : Nat} {ba : Option Addr} {bs : List Int} {x : Int} (o : Out r (r + 1) w w') (h : wholeR bs = .inl (x, q)) : WhQ w r B ba n cap bs (.panicked [stopP x (q : Int)]) w' := ⟨o, .inr ⟨x, q, h, rfl⟩⟩
theorem WhQ.ok {w w' : World} {r B n cap gt gf nt nf : Nat} {ba : Option Addr} {bs : List Int} {x : Int} {ts : List (List Int)} {fs : List (Int × Int × Int × List (Int × Int))} (o : Out r (r + 1) w w') (h : wholeR bs = .inr (x, ts, fs)) (hp : PrAt w' w.heap.size gt gf ts fs) (hnt : ts.length = nt) (hnf : fs.length = nf) : WhQ w r B ba n cap bs (.returned (.agg #[.int .i64 x, .slice (some ⟨gt, 0, none⟩) nt nt, .slice (some ⟨gf, 0, none⟩) nf nf])) w' := by
  subst hnt hnf
  exact ⟨o, .inl ⟨x, ts, fs, gt, gf, h, hp, rfl⟩⟩
set_option maxRecDepth 100000 in
set_option maxHeartbeats 2000000 in
theorem whole_any {w : World} {r B n cap : Nat} {ba : Option Addr} {bs : List Int} (h : RD w r B ba n cap bs 0) :
    Calls Tryd.prog 28 #[.pointer (some ⟨r, 0, none⟩)] w fun e w' => WhQ w r B ba n cap bs e w' := by
  have HR0 := hid_mk (h.alloc (.cells #[.int .i64 0, .slice none 0 0, .slice none 0 0] 35))
  have HB0 := hid_mk (Bl.new w #[.int .i64 0, .slice none 0 0, .slice none 0 0] 35)
  have HO0 := hid_mk ((Out.refl r (r + 1) w).alloc (.cells #[.int .i64 0, .slice none 0 0, .slice none 0 0] 35))
  have hrl : Hid (r < w.heap.size) := h.lt
  have hlen : Hid (bs.length = n) := h.2.2.1
  clear h
  go_enter Tryd.func28, Tryd.ntmps28
  go_wp2_with fail
  refine (rprog_any HR0.out).mono ?_
  rintro e V1 ⟨ho, ⟨x, ts, fs, c, gt, gf, hn, hrd, hgt, hgf, rfl, htr, hfr, hlt⟩ | ⟨x, q, hn, rfl⟩⟩
  · have hp := hid_mk hn
    rw [size_alloc] at hgt
    have HG := hid_mk hgt
    have HB1 := hid_mk (HB0.out.kept ho (by have := hrl.out; omega))
    have HO1 := hid_mk (HO0.out.trans ho)
    have HP1 : Hid (PrAt V1 (w.heap.size + 1) gt gf ts fs) := hid_mk ⟨hgt, hlt, htr, hfr⟩
    have HR1 := hid_mk hrd
    clear hn ho hgt hgf htr hfr hlt hrd
    obtain ⟨nt, hnt⟩ : ∃ k, ts.length = k := ⟨_, rfl⟩
    obtain ⟨nf, hnf⟩ : ∃ k, fs.length = k := ⟨_, rfl⟩
    rw [hnt, hnf]
    have HNT := hid_mk hnt
    have HNF := hid_mk hnf
    clear hnt hnf
    obtain ⟨V2, hV2⟩ : ∃ V, V1.alloc (.cells #[.int .i64 x, .slice (some ⟨gt, 0, none⟩) nt nt, .slice (some ⟨gf, 0, none⟩) nf nf] 35) = V := ⟨_, rfl⟩
    obtain ⟨g1, hg1⟩ : ∃ g, V1.heap.size = g := ⟨_, rfl⟩
    have o12 : Out 0 0 V1 V2 := by rw [← hV2]; exact (Out.refl 0 0 V1).alloc _
    have b2 : Bl V2 g1 #[.int .i64 x, .slice (some ⟨gt, 0, none⟩) nt nt, .slice (some ⟨gf, 0, none⟩) nf nf] 35 := by rw [← hV2, ← hg1]; exact Bl.new _ _ _
    have HO2 := hid_mk (HO1.out.trans (o12.any r (r + 1)))
    have HB2 := hid_mk (HB1.out.kept o12 (.inr (Nat.zero_le _)))
    have HP2 := hid_mk (HP1.out.kept o12 (Nat.zero_le _))
    have HR2 := hid_mk (HR1.out.out o12)
    have HQ2 := hid_mk b2
    have hg1l : Hid (w.heap.size < g1) := hid_mk (by have := HB1.out.lt; omega)
    have e0 := HR2.out.1.cell (i := 0) rfl
    have e1 := HR2.out.1.cell (i := 1) rfl
    clear o12 b2
    go_wp2_with fail
    (try rw [hV2])
    clear hV2 hg1
    refine wp_region_held_drew (S := fun w' => w'.cell? ⟨r, 0, none⟩ = some (.slice ba n cap) ∧ w'.cell? ⟨r, 1, none⟩ = some (.int .i64 (c : Int))) (by kernel_rfl) ⟨e0, e1⟩ (fun hHeld => ?_)
    refine tk 0 ?_
    refine tk 1 ?_
    refine tk 2 ?_
    refine tk 3 ?_
    refine tk 4 ?_
    refine tk 5 ?_
    refine tk 6 ?_
    refine tk 7 ?_
    refine tk 8 ?_
    refine tk 9 ?_
    refine tk 10 ?_
    refine tk 11 ?_
    refine tk 12 ?_
    refine tk 13 ?_
    refine wpAnyH_ready (rs := [14]) (by kernel_rfl) (by simp) ?_
    refine AllReadyH.cons rfl (fun KK hK => ?_) AllReadyH.nil
    simp only [xa, xb, xc]
    go_simp
    refine want_any _ _ _ ?_ ?_
    · intro hh
      have hcn : c = n := by have q : (c : Int) = (n : Int) := (by simpa using hh); omega
      clear hh
      refine hK.out _ _ hHeld (fun _ => ?_)
      refine wpAnyH_done (by kernel_rfl) ?_ _
      clear hHeld
      have k0 := HQ2.out.cell (i := 0) rfl
      have k1 := HQ2.out.cell (i := 1) rfl
      have k2 := HQ2.out.cell (i := 2) rfl
      have y0 := HB2.out.cell (i := 0) rfl
      have y1 := HB2.out.cell (i := 1) rfl
      have y2 := HB2.out.cell (i := 2) rfl
      have z0 := HB2.out.frozen 0
      have z1 := HB2.out.frozen 1
      have z2 := HB2.out.frozen 2
      have hW : Hid (wholeR bs = .inr (x, ts, fs)) := hid_mk (whole_ok (by rw [hlen.out, ← hcn]; exact hp.out))
      clear hcn
      go_wp2
      have b9 := ((HB2.out.set 0 (.int .i64 x)).set 1 (.slice (some ⟨gt, 0, none⟩) nt nt)).set 2 (.slice (some ⟨gf, 0, none⟩) nf nf)
      have o9 : Out w.heap.size (w.heap.size + 1) V2 (((V2.setCell ⟨w.heap.size, 0, none⟩ (.int .i64 x)).setCell ⟨w.heap.size, 1, none⟩ (.slice (some ⟨gt, 0, none⟩) nt nt)).setCell ⟨w.heap.size, 2, none⟩ (.slice (some ⟨gf, 0, none⟩) nf nf)) := (((Out.refl w.heap.size (w.heap.size + 1) V2).setCell (p := ⟨w.heap.size, 0, none⟩) (.inl ⟨Nat.le_refl _, Nat.lt_succ_self _⟩) _).setCell (p := ⟨w.heap.size, 1, none⟩) (.inl ⟨Nat.le_refl _, Nat.lt_succ_self _⟩) _).setCell (p := ⟨w.heap.size, 2, none⟩) (.inl ⟨Nat.le_refl _, Nat.lt_succ_self _⟩) _
      have p9 := HP2.out.kept o9 (Nat.le_refl _)
      refine ret_cell Tryd.results28 rfl rfl (load_pr (show Bl _ _ _ _ from b9)) (WhQ.ok ?_ hW.out (show PrAt _ _ _ _ _ _ from ⟨Nat.le_trans (Nat.le_succ _) p9.1, p9.2.1, p9.2.2.1, p9.2.2.2⟩) HNT.out HNF.out)
      exact (HO2.out.past o9 (Nat.le_refl _)).drew
    · intro hh
      have hcn : c ≠ n := by have q : ¬ (c : Int) = (n : Int) := (by simpa using hh); omega
      exact ⟨rfl, WhQ.err HO2.out.drew (whole_left hp.out (by rw [hlen.out]; exact hcn))⟩
  · exact ⟨rfl, WhQ.err (HO0.out.trans ho) (whole_err hn)⟩
theorem setI {w : World} {g : Nat} {x : Int} {T : TypeId} (hg : Bl w g #[.int .i64 x] T) (y : Int) : Bl (w.setCell ⟨g, 0, none⟩ (.int .i64 y)) g #[.int .i64 y] T ∧ Out g (g + 1) w (w.setCell ⟨g, 0, none⟩ (.int .i64 y)) :=
  ⟨hg.set 0 _, (Out.refl g (g + 1) w).setCell (p := ⟨g, 0, none⟩) (.inl ⟨Nat.le_refl _, Nat.lt_succ_self _⟩) _⟩
theorem catchR_idle {g : Nat} {x y : Int} {w : World} (hg : Bl w g #[.int .i64 x] 3) (hg2 : Bl w (g + 1) #[.int .i64 y] 43) :
    CallsD Tryd.prog 27 #[.pointer (some ⟨g, 0, none⟩), .pointer (some ⟨g + 1, 0, none⟩)] .returning w fun e u' w' => e = .returned (.tuple #[]) ∧ u' = .returning ∧ Bl w' g #[.int .i64 0] 3 ∧ Bl w' (g + 1) #[.int .i64 0] 43 ∧ Out g (g + 2) w w' := by
  refine callsD_of_wpS Tryd.func27 rfl fun c₀ cs hu => ?_
  apply wpS_region
  simp [wpOpsS, go_sem, recoverD, hu, Tryd.ntmps27, Exit.thenS]
  refine calls_same (caught_nil w) ?_
  have a1 := hg.cell (i := 0) rfl
  have a2 := hg.frozen 0
  have k1 := setI hg 0
  have k2 := hg2.kept k1.2 (.inr (Nat.le_refl _))
  have a3 := k2.cell (i := 0) rfl
  have a4 := k2.frozen 0
  have k3 := setI k2 0
  have k4 := k1.1.kept k3.2 (.inl (Nat.lt_succ_self _))
  have k5 : Out g (g + 2) w _ := (k1.2.wide (Nat.le_refl _) (Nat.le_succ _)).trans (k3.2.wide (Nat.le_succ _) (Nat.le_refl _))
  simp [go_sem, storeCells, a1, a2, a3, a4, bodyPostS, results, Tryd.results27]
  cases c₀
  simp_all
theorem catchR_stop {g : Nat} {x y e a : Int} {older : List PanicEntry} {w : World} (hT : Ty w) (hg : Bl w g #[.int .i64 x] 3) (hg2 : Bl w (g + 1) #[.int .i64 y] 43) :
    CallsD Tryd.prog 27 #[.pointer (some ⟨g, 0, none⟩), .pointer (some ⟨g + 1, 0, none⟩)] (.panicking (stopP e a :: older)) w fun e' u' w' => e' = .returned (.tuple #[]) ∧ u' = .panicking ({ v := .iface 85 (.agg #[.int .i64 e, .int .i64 a]), recovered := true } :: older) ∧ Bl w' g #[.int .i64 a] 3 ∧ Bl w' (g + 1) #[.int .i64 e] 43 ∧ Out g (g + 2) w w' := by
  refine callsD_of_wpS Tryd.func27 rfl fun c₀ cs hu => ?_
  apply wpS_region
  unfold stopP at hu
  simp [wpOpsS, go_sem, recoverD, hu, Tryd.ntmps27, Exit.thenS]
  refine (caught_stop e a w hT).mono ?_
  rintro e' w1 ⟨rfl, o1⟩
  have h1 := hg.kept o1 (.inr (Nat.zero_le _))
  have h2 := hg2.kept o1 (.inr (Nat.zero_le _))
  have a1 := h1.cell (i := 0) rfl
  have a2 := h1.frozen 0
  have k1 := setI h1 a
  have k2 := h2.kept k1.2 (.inr (Nat.le_refl _))
  have a3 := k2.cell (i := 0) rfl
  have a4 := k2.frozen 0
  have k3 := setI k2 e
  have k4 := k1.1.kept k3.2 (.inl (Nat.lt_succ_self _))
  have k5 : Out g (g + 2) w _ := (o1.any g (g + 2)).trans ((k1.2.wide (Nat.le_refl _) (Nat.le_succ _)).trans (k3.2.wide (Nat.le_succ _) (Nat.le_refl _)))
  simp [go_sem, storeCells, a1, a2, a3, a4, bodyPostS, results, Tryd.results27]
  exact ⟨k4, k3.1, k5⟩
/-- what Read leaves -/
def RdQ (w : World) (n : Nat) (bs : List Int) (e : Ending) (w' : World) : Prop := Out 0 0 w w' ∧ ((65536 < n ∧ e = .returned (.tuple #[.agg #[.int .i64 0, .slice none 0 0, .slice none 0 0], .int .i64 0, .int .i64 2])) ∨
  (n ≤ 65536 ∧ ∃ x q, wholeR bs = .inl (x, q) ∧ e = .returned (.tuple #[.agg #[.int .i64 0, .slice none 0 0, .slice none 0 0], .int .i64 (q : Int), .int .i64 x])) ∨
  (n ≤ 65536 ∧ ∃ x ts fs gt gf, wholeR bs = .inr (x, ts, fs) ∧ PrAt w' w.heap.size gt gf ts fs ∧ e = .returned (.tuple #[.agg #[.int .i64 x, .slice (some ⟨gt, 0, none⟩) ts.length ts.length, .slice (some ⟨gf, 0, none⟩) fs.length fs.length], .int .i64 0, .int .i64 0])))
theorem results_ccc {P : Program} {fn : Func} {p q u : Tmp} {T1 T2 T3 : TypeId} {t : Array Value} {w : World} {v1 v2 v3 : Value} {A1 A2 A3 : Addr} (hr : fn.results = #[.cell p T1, .cell q T2, .cell u T3]) (hp : t.getD p undef = .pointer (some A1)) (hq : t.getD q undef = .pointer (some A2)) (hu : t.getD u undef = .pointer (some A3))
    (r1 : (loadVar T1 A1).run P w = .ok v1 w) (r2 : (loadVar T2 A2).run P w = .ok v2 w) (r3 : (loadVar T3 A3).run P w = .ok v3 w) : (results fn t).run P w = .ok (.tuple #[v1, v2, v3]) w := by
  have hp' : t[p]?.getD undef = .pointer (some A1) := by simpa using hp
  have hq' : t[q]?.getD undef = .pointer (some A2) := by simpa using hq
  have hu' : t[u]?.getD undef = .pointer (some A3) := by simpa using hu
  simp only [results, hr]
  simp [Sem.run_bind, hp', hq', hu', asAddr, r1, r2, r3, Result.andThen]
theorem load_int {w : World} {g : Nat} {x : Int} (hg : Bl w g #[.int .i64 x] 3) : (loadVar 3 ⟨g, 0, none⟩).run Tryd.prog w = .ok (.int .i64 x) w := by
  have c := hg.cell (i := 0) rfl
  simp [loadVar, isAgg, underlying, Tryd.underlying3, c, Result.andThen]
theorem three_new (w : World) (c0 c1 c2 : Array Value) (T0 T1 T2 : TypeId) : Bl (((w.alloc (.cells c0 T0)).alloc (.cells c1 T1)).alloc (.cells c2 T2)) w.heap.size c0 T0 ∧ Bl (((w.alloc (.cells c0 T0)).alloc (.cells c1 T1)).alloc (.cells c2 T2)) (w.heap.size + 1) c1 T1 ∧ Bl (((w.alloc (.cells c0 T0)).alloc (.cells c1 T1)).alloc (.cells c2 T2)) (w.heap.size + 1 + 1) c2 T2 := by
  refine ⟨((Bl.new w c0 T0).alloc _).alloc _, ?_, ?_⟩
  · have := (Bl.new (w.alloc (.cells c0 T0)) c1 T1).alloc (.cells c2 T2)
    rwa [size_alloc] at this
  · have := Bl.new ((w.alloc (.cells c0 T0)).alloc (.cells c1 T1)) c2 T2
    rwa [size_alloc, size_alloc] at this
set_option maxRecDepth 100000 in
set_option maxHeartbeats 2000000 in
theorem read_any {w : World} {B n cap : Nat} {ba : Option Addr} {bs : List Int} (hT : Ty w) (hB : B ≤ w.heap.size) (hin : ByIn w B ba bs) (hn : bs.length = n) (hc : n ≤ cap) :
    Calls Tryd.prog 12 #[.slice ba n cap] w fun e w' => RdQ w n bs e w' := by
  have hmf : ∀ (fn : Fn) (first cap : Array Value) (w : World), (Instr.makeFunc fn first cap).run Tryd.prog w = .ok (.func fn first cap) w := fun _ _ _ _ => rfl
  obtain ⟨g, hg⟩ : ∃ g, w.heap.size = g := ⟨_, rfl⟩
  obtain ⟨V, hV⟩ : ∃ V, ((w.alloc (.cells #[.int .i64 0, .slice none 0 0, .slice none 0 0] 35)).alloc (.cells #[.int .i64 0] 3)).alloc (.cells #[.int .i64 0] 43) = V := ⟨_, rfl⟩
  obtain ⟨b0, b1, b2⟩ := three_new w #[.int .i64 0, .slice none 0 0, .slice none 0 0] #[.int .i64 0] #[.int .i64 0] 35 3 43
  have HO := hid_mk ((((Out.refl 0 0 w).alloc (.cells #[.int .i64 0, .slice none 0 0, .slice none 0 0] 35)).alloc (.cells #[.int .i64 0] 3)).alloc (.cells #[.int .i64 0] 43))
  rw [hV, hg] at b0 b1 b2
  rw [hV] at HO
  have HB0 := hid_mk b0
  have HB1 := hid_mk b1
  have HB2 := hid_mk b2
  have HG := hid_mk hg
  have HTy := hid_mk hT
  have HIN := hid_mk (And.intro hB (And.intro (hin.kept (Lo.of_out HO.out) (Nat.le_refl _)) (And.intro hn hc)))
  clear hT hB hin hn hc b0 b1 b2
  by_cases hK : n ≤ 65536
  · have hd : decide ((n : Int) ≤ 65536) = true := by simp; omega
    have HK := hid_mk hK
    clear hK
    obtain ⟨V2, hV2⟩ : ∃ V2, V.alloc (.cells #[.slice ba n cap, .int .i64 0] 69) = V2 := ⟨_, rfl⟩
    obtain ⟨g3, hg3⟩ : ∃ g, V.heap.size = g := ⟨_, rfl⟩
    have o2 : Out 0 0 V V2 := by rw [← hV2]; exact (Out.refl 0 0 V).alloc _
    have br : Bl V2 g3 #[.slice ba n cap, .int .i64 0] 69 := by rw [← hV2, ← hg3]; exact Bl.new _ _ _
    have hg3l : Hid (g + 1 + 1 < g3) := hid_mk (by rw [← hg3]; exact HB2.out.lt)
    have HR : Hid (RD V2 g3 B ba n cap bs 0) := hid_mk ⟨br, HIN.out.2.1.kept (Lo.of_out o2) (Nat.le_refl _), HIN.out.2.2.1, by have := HIN.out.1; have := HG.out; have := hg3l.out; omega, Nat.zero_le _, HIN.out.2.2.2, HK.out⟩
    have HW := hid_mk (whole_any HR.out)
    have HX : Hid (∀ V3, Out g3 (g3 + 1) V2 V3 → Out 0 0 w V3 ∧ Bl V3 g #[.int .i64 0, .slice none 0 0, .slice none 0 0] 35 ∧ Bl V3 (g + 1) #[.int .i64 0] 3 ∧ Bl V3 (g + 1 + 1) #[.int .i64 0] 43) := hid_mk fun V3 o3 => by
      have h3 := hg3l.out
      refine ⟨(HO.out.trans o2).past o3 (by have := HG.out; omega), (HB0.out.kept o2 (.inr (Nat.zero_le _))).kept o3 (by omega), (HB1.out.kept o2 (.inr (Nat.zero_le _))).kept o3 (by omega), (HB2.out.kept o2 (.inr (Nat.zero_le _))).kept o3 (by omega)⟩
    have hs2 : Hid (g < V2.heap.size) := hid_mk (by have := br.lt; have := hg3l.out; omega)
    have HV2 := hid_mk hV2
    have HG3 := hid_mk hg3
    clear o2 br hV2 hg3
    go_enter_defers Tryd.func12, Tryd.ntmps12
    go_wp2_with (first
      | (go_at_call 26; refine calls_same (want_yes _ _ _) ?_)
      | fail)
    rw [HV2.out, HG3.out]
    clear hV hg
    refine HW.out.mono ?_
    rintro e V3 ⟨ho, ⟨x, ts, fs, gt, gf, hw, hp, rfl⟩ | ⟨x, q, hw, rfl⟩⟩
    · obtain ⟨h1, h2, h3, h4⟩ := HX.out V3 ho
      have HO1 := hid_mk h1
      have HB3 := hid_mk h2
      have HB4 := hid_mk h3
      have HB5 := hid_mk h4
      have HWh := hid_mk hw
      have HP := hid_mk hp
      have y0 := h2.cell (i := 0) rfl
      have y1 := h2.cell (i := 1) rfl
      have y2 := h2.cell (i := 2) rfl
      have z0 := h2.frozen 0
      have z1 := h2.frozen 1
      have z2 := h2.frozen 2
      have y3 := h3.cell (i := 0) rfl
      have z3 := h3.frozen 0
      have y4 := h4.cell (i := 0) rfl
      have z4 := h4.frozen 0
      obtain ⟨nt, hnt⟩ : ∃ k, ts.length = k := ⟨_, rfl⟩
      obtain ⟨nf, hnf⟩ : ∃ k, fs.length = k := ⟨_, rfl⟩
      rw [hnt, hnf]
      have HNT := hid_mk hnt
      have HNF := hid_mk hnf
      clear h1 h2 h3 h4 hw hp ho hnt hnf
      go_wp2
      have p0 := ((HB3.out.set 0 (.int .i64 x)).set 1 (.slice (some ⟨gt, 0, none⟩) nt nt)).set 2 (.slice (some ⟨gf, 0, none⟩) nf nf)
      have o0 : Out g (g + 1) V3 (((V3.setCell ⟨g, 0, none⟩ (.int .i64 x)).setCell ⟨g, 1, none⟩ (.slice (some ⟨gt, 0, none⟩) nt nt)).setCell ⟨g, 2, none⟩ (.slice (some ⟨gf, 0, none⟩) nf nf)) := (((Out.refl g (g + 1) V3).setCell (p := ⟨g, 0, none⟩) (.inl ⟨Nat.le_refl _, Nat.lt_succ_self _⟩) _).setCell (p := ⟨g, 1, none⟩) (.inl ⟨Nat.le_refl _, Nat.lt_succ_self _⟩) _).setCell (p := ⟨g, 2, none⟩) (.inl ⟨Nat.le_refl _, Nat.lt_succ_self _⟩) _
      have p1 := setI (HB4.out.kept o0 (.inr (Nat.le_refl _))) 0
      have p2 := setI ((HB5.out.kept o0 (.inr (by omega))).kept p1.2 (.inr (Nat.le_refl _))) 0
      have p3 := p1.1.kept p2.2 (.inl (Nat.lt_succ_self _))
      have p4 := (p0.kept p1.2 (.inl (Nat.lt_succ_self _))).kept p2.2 (.inl (by omega))
      have o9 := ((o0.wide (hi' := g + 3) (Nat.le_refl _) (by omega)).trans (p1.2.wide (lo' := g) (hi' := g + 3) (by omega) (by omega))).trans (p2.2.wide (lo' := g) (hi' := g + 3) (by omega) (by omega))
      refine leaves_cons (f := 27) (args := #[.pointer (some ⟨g + 1, 0, none⟩), .pointer (some ⟨g + 1 + 1, 0, none⟩)]) (by simp) (by simp [go_sem]) ?_
      refine (catchR_idle p3 p2.1).mono ?_
      rintro e u' w9 ⟨rfl, rfl, f9, f10, q9⟩
      have hpr := (HP.out.kept (o9.trans (q9.wide (lo' := g) (hi' := g + 3) (by omega) (by omega))) (by have := HR.out.lt; have := hg3l.out; omega))
      refine leaves_ret (results_ccc Tryd.results12 rfl rfl rfl (load_pr (p4.kept q9 (.inl (Nat.lt_succ_self _)))) (load_int f9) (load_err f10)) ⟨HO1.out.past (o9.trans (q9.wide (lo' := g) (hi' := g + 3) (by omega) (by omega))) (by have := HG.out; omega), .inr (.inr ⟨HK.out, x, ts, fs, gt, gf, HWh.out, ⟨Nat.le_trans (by have := HG.out; have := hs2.out; omega) hpr.1, hpr.2⟩, ?_⟩)⟩
      rw [HNT.out, HNF.out]
    · obtain ⟨h1, h2, h3, h4⟩ := HX.out V3 ho
      (try simp)
      refine leaves_cons (f := 27) (args := #[.pointer (some ⟨g + 1, 0, none⟩), .pointer (some ⟨g + 1 + 1, 0, none⟩)]) (by simp) (by simp [go_sem]) ?_
      refine (catchR_stop (HTy.out.out h1 (.inr rfl)) h3 h4).mono ?_
      rintro e u' w9 ⟨rfl, rfl, f9, f10, q9⟩
      exact leaves_ret (results_ccc Tryd.results12 rfl rfl rfl (load_pr (h2.kept q9 (.inl (Nat.lt_succ_self _)))) (load_int f9) (load_err f10)) ⟨h1.past q9 (by have := HG.out; omega), .inr (.inl ⟨HK.out, x, q, hw, rfl⟩)⟩
  · have hd : decide ((n : Int) ≤ 65536) = false := by simp; omega
    have HK : Hid (65536 < n) := hid_mk (by omega)
    clear hK
    go_enter_defers Tryd.func12, Tryd.ntmps12
    go_wp2_with (go_at_call 26; refine calls_stop (want_no _ _ _) ?_)
    (try simp)
    (try rw [hV])
    (try rw [hg])
    refine leaves_cons (f := 27) (args := #[.pointer (some ⟨g + 1, 0, none⟩), .pointer (some ⟨g + 1 + 1, 0, none⟩)]) (by simp) (by simp [go_sem]) ?_
    refine (catchR_stop (HTy.out.out HO.out (.inr rfl)) HB1.out HB2.out).mono ?_
    rintro e u' w9 ⟨rfl, rfl, f9, f10, q9⟩
    exact leaves_ret (results_ccc Tryd.results12 rfl rfl rfl (load_pr (HB0.out.kept q9 (.inl (Nat.lt_succ_self _)))) (load_int f9) (load_err f10)) ⟨HO.out.past q9 (by have := HG.out; omega), .inl ⟨HK.out, rfl⟩⟩
end Go.Proofs.YtapjfokkcgdhhaaDoor
